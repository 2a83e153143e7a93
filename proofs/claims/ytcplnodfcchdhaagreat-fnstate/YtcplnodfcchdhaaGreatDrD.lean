/-
  A state drawn, that is right, mostly: what l04State answers; a walk over the dump.
-/
import Derived.Test.YtcplnodfcchdhaaGreatPackK
import Derived.Test.YtcplnodfcchdhaaGreatPackX
import Derived.Test.YtcplnodfcchdhaaGreatPackY
import Derived.Deep.CutRange
import Derived.Deep.RegionWith
namespace Go.Proofs.YtcplnodfcchdhaaGreat
open Go.RowKit
set_option linter.unusedVariables false
set_option linter.unusedSimpArgs false
theorem new_small {l : List Q} (hl : l.length ≤ 5) (hb : Brief l) : SmS (newSt (qlN l) (epN l) (nxN l) (epN l)) 0 0 0 := by
  unfold qlN epN nxN
  split
  · exact ⟨⟨by simp; omega, hb⟩, by simp, by simp, by simp, by simp, by simp, by simp, by simp, by simp⟩
  · exact ⟨⟨by simp, by simp⟩, by simp, by simp, by simp, by simp, by simp, by simp, by simp, by simp⟩

set_option maxRecDepth 100000 in
set_option maxHeartbeats 8000000 in
theorem state_st {w0 : World} {B g : Nat} {ao : Option Addr} {len cap : Nat} (w : World) (h : CSt w0 B g ao len cap w) :
    Calls Tryz.prog 79 #[.pointer (some ⟨g, 0, none⟩)] w fun e w' => ∃ y s hs, e = .returned (sv y s) ∧ Hid (SHas w.heap.size w' y s hs) ∧ Hid (SmS s 4 3 6) ∧ Hid (CSt w0 B g ao len cap w') := by
  have HW := hide h
  have hgl := h.1.lt
  have C0 := hide (show CSt w B g ao len cap (w.alloc (.cells #[.slice none 0 0, .int .i64 0, .int .i64 0, .int .i64 0, .int .i64 0, .slice none 0 0, .slice none 0 0, .slice none 0 0] 29)) from h.rebase.alloc _)
  have R0 := hide (blk_new w #[.slice none 0 0, .int .i64 0, .int .i64 0, .int .i64 0, .int .i64 0, .slice none 0 0, .slice none 0 0, .slice none 0 0] 29)
  clear h
  go_enter Tryz.func79, Tryz.ntmps79
  go_wp2_with fail
  refine (right_st _ (unhide C0).rebase).mono ?_
  rintro e w1 ⟨v, ls, rfl, hq, hl1, hl2, hbr, hc1⟩
  have hlt : ls ≠ [] := fun e => by rw [e] at hl1; simp at hl1
  obtain ⟨qb, qc, cur, rfl, hrow, hqc, _, _⟩ := (unhide hq).row hlt
  have hfq : FitQ ls := ⟨by omega, fun q hq => by have := unhide hbr q hq; omega⟩
  have R1 := hide ((cur_mks (unhide C0).1 (unhide hc1).1 (unhide hc1).2.2.1).blk (unhide R0) (by omega))
  have C1 := hide ((unhide C0).step (unhide hc1).1 (unhide hc1).2.2.1)
  have hz1 : w.heap.size + 1 ≤ w1.heap.size := (unhide R1).lt
  have CN := hide (specStateNew_any (some ⟨qb, 0, none⟩) ls.length qc ls w1 hrow (by omega) hfq ⟨_, rfl⟩ (fun qo n c wy hr _ => by have := specStateOk_any (newX qo n c) (newSt ls 1 1001 1) wy (new_row 1 1001 1 hr) (new_fit 1 1001 1 hfq); rw [new_ok] at this; exact this))
  have SM := hide (new_small hl2 (unhide hbr))
  clear hlt hq hrow hqc hfq hc1 C0 R0 hbr
  go_wp2_with fail
  refine (unhide CN).mono ?_
  rintro e w2 hN
  obtain ⟨qo, n, c, rfl, hn, hown, hb⟩ := NewAns.one hN
  have R2 := hide ((unhide R1).below hb)
  have C2 := hide ((unhide C1).below hb)
  have hz2 : w.heap.size + 1 ≤ w2.heap.size := (unhide R2).lt
  have H2 := hide ((new_has (epN ls) (nxN ls) (epN ls) hown hn).base (show w.heap.size ≤ w1.heap.size + 1 by omega))
  obtain ⟨x, hx⟩ : ∃ x, newX qo n c = x := ⟨_, rfl⟩
  obtain ⟨s, hs⟩ : ∃ s, newSt (qlN ls) (epN ls) (nxN ls) (epN ls) = s := ⟨_, rfl⟩
  rw [hs] at SM
  rw [hx, hs] at H2 ⊢
  generalize queuesOk ls = okq at ⊢
  clear hN hown hb hx hs R1 C1 CN hn hz1 hl1 hl2
  have R3 := hide (((unhide R2).al (.cells (svc x s) 29)).al (.cells names3 9))
  have b3 := below_al (below_al (Below.refl _ w2) (.cells (svc x s) 29)) (.cells names3 9)
  have X3 := hide ((blk_new w2 (svc x s) 29).al (.cells names3 9))
  have N3 := hide (show Blk _ (w2.heap.size + 1) names3 9 by have := blk_new (w2.alloc (.cells (svc x s) 29)) names3 9; rwa [al_size] at this)
  have D3 := hide (show DSt w B g ao len cap w2.heap.size (w2.heap.size + 1) (svc x s) _ from ⟨(unhide C2).below b3, hgl, unhide X3, by omega, unhide R3, unhide N3, by omega⟩)
  have H3 := hide ((unhide H2).below b3)
  clear R3 X3 N3 b3 R2 C2 H2
  go_wp2_with fail
  refine (below_st 4 _ (unhide D3).c (by decide) (by decide)).mono ?_
  rintro e w4 ⟨n3, rfl, hn0, hn1, hc4, hg4⟩
  have D4 := hide ((unhide D3).cur hc4 hg4)
  have H4 := hide ((unhide D3).off hc4 hg4 (unhide H3))
  obtain ⟨b, hbb⟩ : ∃ b, w2.heap.size = b := ⟨_, rfl⟩
  obtain ⟨q, hqq⟩ : ∃ q, b + 1 = q := ⟨_, rfl⟩
  obtain ⟨nm, rfl⟩ := Int.eq_ofNat_of_zero_le hn0
  rw [hbb, hqq] at D4 ⊢
  have hnm : nm ≤ 3 := by omega
  clear D3 H3 hc4 hg4 hbb hqq hz2 hn0 hn1
  go_wp2
  go_loopw [7] (fun i wr => ∃ (k : Nat) (y : Sls) (s : St), k ≤ nm ∧ i = .int .i64 k ∧ Hid (DSt w B g ao len cap b q (svc y s) wr) ∧ Hid (SHas w.heap.size wr y s []) ∧ Hid (SmS s 0 k 0)) (fun i _ => nm - (intOf i).toNat)
  case atStart => exact ⟨0, x, s, Nat.zero_le _, rfl, D4, H4, SM⟩
  case round =>
    clear D4 H4 SM
    obtain ⟨k, y, s, hk, rfl, HD, HH, HS⟩ := hrel
    by_cases hlt : k < nm
    · obtain ⟨na, hna, hat⟩ := names_at k (by omega)
      have k0 : (0 : Int) ≤ k := by omega
      have k1 : (k : Int) < 3 := by omega
      have k2 : (k : Int) < nm := by omega
      have HML := hide (show y.ml ≤ 1000 by have := (unhide HH).m.1.1; have := (unhide HS).ml; omega)
      go_upto_region 7 with fail
      refine wp_region_x 15 (fun wx => Blk wx q names3 9) (fun wx => DSt w B g ao len cap b q (svc y s) wx ∧ SHas w.heap.size wx y s []) (by kernel_rfl) ((unhide HD).n.below (Below.refl _ _).drew) ⟨(unhide HD).below (Below.refl _ _).drew, (unhide HH).below (Below.refl _ _).drew⟩ (fun S0 T0 => ?_)
      refine takeXS 0 30 _ rfl rfl S0 T0 ?_
      try simp only [Act.put, List.setIfInBounds_toArray, List.set_cons_zero, List.set_cons_succ]
      refine takeXT 1 31 (.slice y.ma y.ml y.mc) rfl rfl S0 T0 ?_ (hy := Or.inl ⟨by rfl, fun wz hz => by (have c6 := hz.1.x.at 6; simp at c6; go_simp)⟩)
      try simp only [Act.put, List.setIfInBounds_toArray, List.set_cons_zero, List.set_cons_succ]
      refine takeXS 2 32 _ rfl rfl S0 T0 ?_
      try simp only [Act.put, List.setIfInBounds_toArray, List.set_cons_zero, List.set_cons_succ]
      refine takeXS 3 33 _ rfl rfl S0 T0 ?_
      try simp only [Act.put, List.setIfInBounds_toArray, List.set_cons_zero, List.set_cons_succ]
      refine takeXS 4 34 _ rfl rfl S0 T0 ?_
      try simp only [Act.put, List.setIfInBounds_toArray, List.set_cons_zero, List.set_cons_succ]
      refine takeXS 5 35 (.string (bs na)) rfl rfl S0 T0 ?_ (hy := Or.inl ⟨by rfl, fun wz hz => by (have ck := hz.at k; rw [hat] at ck; go_simp)⟩)
      try simp only [Act.put, List.setIfInBounds_toArray, List.set_cons_zero, List.set_cons_succ]
      refine takeXS 6 36 _ rfl rfl S0 T0 ?_
      try simp only [Act.put, List.setIfInBounds_toArray, List.set_cons_zero, List.set_cons_succ]
      refine takeXS 9 39 _ rfl rfl S0 T0 ?_
      try simp only [Act.put, List.setIfInBounds_toArray, List.set_cons_zero, List.set_cons_succ]
      refine wpAnyX_ready [7] (AllReadyX.cons rfl (fun K hK => ?_) AllReadyX.nil)
      go_simp
      refine (below_st 30 _ T0.1.c (by decide) (by decide)).mono ?_
      rintro e wn ⟨x7, rfl, hx7a, hx7b, hcn, hgn⟩
      have T1 := And.intro (T0.1.cur hcn hgn) (T0.1.off hcn hgn T0.2)
      clear S0 T0 hcn hgn
      go_wp2_with fail
      refine hK.out _ _ T1.1.n (fun _ => T1) ?_
      clear hK K
      have S0 := T1.1.n
      have T0 := T1
      clear T1
      try simp only [Act.put, List.setIfInBounds_toArray, List.set_cons_zero, List.set_cons_succ]
      refine takeXS 8 38 _ rfl rfl S0 T0 ?_
      try simp only [Act.put, List.setIfInBounds_toArray, List.set_cons_zero, List.set_cons_succ]
      refine wpAnyX_ready [10] (AllReadyX.cons rfl (fun K hK => ?_) AllReadyX.nil)
      go_simp
      refine (below_st 12 _ T0.1.c (by decide) (by decide)).mono ?_
      rintro e wn ⟨x10, rfl, hx10a, hx10b, hcn, hgn⟩
      have T1 := And.intro (T0.1.cur hcn hgn) (T0.1.off hcn hgn T0.2)
      clear S0 T0 hcn hgn
      go_wp2_with fail
      refine hK.out _ _ T1.1.n (fun _ => T1) ?_
      clear hK K
      have S0 := T1.1.n
      have T0 := T1
      clear T1
      try simp only [Act.put, List.setIfInBounds_toArray, List.set_cons_zero, List.set_cons_succ]
      refine takeXS 11 41 _ rfl rfl S0 T0 ?_
      try simp only [Act.put, List.setIfInBounds_toArray, List.set_cons_zero, List.set_cons_succ]
      refine takeXS 12 42 _ rfl rfl S0 T0 ?_
      try simp only [Act.put, List.setIfInBounds_toArray, List.set_cons_zero, List.set_cons_succ]
      refine takeXS 13 43 _ rfl rfl S0 T0 ?_
      try simp only [Act.put, List.setIfInBounds_toArray, List.set_cons_zero, List.set_cons_succ]
      have hbn := below_al (Below.refl _ wn) (.cells #[.string (bs na), .int .i64 (10 + x7), .int .i64 (4 + x10), .int .i64 0] 56)
      obtain ⟨g4, cp, w4, hrun, HA⟩ := runM (B := w.heap.size) T0.2.m.1 T0.2.rm.2.2.1 T0.2.cap.m (unhide HML) T0.1.c.2.2.1.size ⟨na, 10 + x7, 4 + x10, 0⟩
      simp only at hrun HA
      have D3 := (T0.1.below hbn).mks (unhide HA).mks (fun k ⟨N, hc, hB⟩ => ⟨hB, _, N, hc, by decide, by decide⟩)
      have H3 := (T0.2.below hbn).addM ⟨na, 10 + x7, 4 + x10, 0⟩ (unhide HA)
      have D4 := hide (D3.set 6 (.slice (some ⟨g4, 0, none⟩) (y.ml + 1) cp))
      have H4 := hide (D3.setH 6 (.slice (some ⟨g4, 0, none⟩) (y.ml + 1) cp) H3)
      have X3 := D3.x
      refine wpAnyX_ready [14] (AllReadyX.cons rfl (fun K hK => ?_) AllReadyX.nil)
      go_wp2_with fail
      refine hK.out _ _ (S0.below hbn) (fun _ => ⟨T0.1.below hbn, T0.2.below hbn⟩) ?_
      clear hK K
      try simp only [Act.put, List.setIfInBounds_toArray, List.set_cons_zero, List.set_cons_succ]
      refine wpAnyX_ready [15] (AllReadyX.cons rfl (fun K hK => readyV 45 (by rfl) rfl (exec_append rfl rfl rfl hrun) ?_) AllReadyX.nil)
      refine hK.out _ _ D3.n (xno (by kernel_rfl)) ?_
      have S4 := D3.n
      clear hK K hrun T0 S0 D3 H3 HA hbn
      try simp only [Act.put, List.setIfInBounds_toArray, List.set_cons_zero, List.set_cons_succ]
      refine wpAnyX_on _ _ _ _ (by kernel_rfl) ?_
      refine takeW 16 46 _ rfl rfl S4 ?_
      try simp only [Act.put, List.setIfInBounds_toArray, List.set_cons_zero, List.set_cons_succ]
      refine wpAnyH_ready (rs := [17]) (by kernel_rfl) (by simp) (AllReadyH.cons rfl (fun K hK => readyU (by rfl) rfl (run_u (put_cell (26) (.slice (some ⟨g4, 0, none⟩) (y.ml + 1) cp) X3 (by show 6 < 8; decide) (by kernel_rfl) rfl)) ?_) AllReadyH.nil)
      refine hK.out _ _ (unhide D4).n (fun _ => ?_)
      clear hK K S4 X3
      try simp only [Act.put, List.setIfInBounds_toArray, List.set_cons_zero, List.set_cons_succ]
      refine wpAnyH_done (by kernel_rfl) ?_ _
      generalize w4.setCell ⟨b, 6, none⟩ (.slice (some ⟨g4, 0, none⟩) (y.ml + 1) cp) = w5 at D4 H4 ⊢
      go_wp2
      go_roundw
      case rel => exact ⟨k + 1, ⟨y.qa, y.ql, y.qc, y.aa, y.al, y.ac, some ⟨g4, 0, none⟩, y.ml + 1, cp, y.ca, y.cl, y.cc⟩, ⟨s.qs, s.clock, s.epoch, s.next, s.serial, s.apps, s.ms ++ [⟨na, 10 + x7, 4 + x10, 0⟩], s.cs⟩, by omega, by go_num, D4, H4, hide ((unhide HS).addM ⟨na, 10 + x7, 4 + x10, 0⟩ (by show na.length ≤ 12; omega))⟩
      case measure => simp [intOf]; omega
    · have k2 : ¬ (k : Int) < nm := by omega
      obtain rfl : nm = k := by omega
      clear hlt
      go_wp2_with fail
      refine (below_st 5 _ (unhide HD).c (by decide) (by decide)).mono ?_
      rintro e w6 ⟨na, rfl, hn0, hn1, hc6, hg6⟩
      have D6 := hide ((unhide HD).cur hc6 hg6)
      have H6 := hide ((unhide HD).off hc6 hg6 (unhide HH))
      have S6 := hide ((unhide HS).mono (Nat.le_refl 0) hnm (Nat.le_refl 0))
      obtain ⟨nk, rfl⟩ := Int.eq_ofNat_of_zero_le hn0
      have hnk : nk ≤ 4 := by omega
      clear HD HH HS hc6 hg6 hn0 hn1 k2 hk
      go_wp2
      go_loopw [9] (fun i wr => ∃ (k : Nat) (y : Sls) (s : St) (hs : List AV), k ≤ nk ∧ i = .int .i64 k ∧ Hid (DSt w B g ao len cap b q (svc y s) wr) ∧ Hid (SHas w.heap.size wr y s hs) ∧ Hid (SmS s k 3 0)) (fun i _ => nk - (intOf i).toNat)
      case atStart => exact ⟨0, y, s, [], Nat.zero_le _, rfl, D6, H6, S6⟩
      case round =>
        clear D6 H6 S6
        obtain ⟨k, y, s, hs, hk, rfl, HD, HH, HS⟩ := hrel
        by_cases hlt : k < nk
        · have k2 : (k : Int) < nk := by omega
          obtain ⟨E, hE⟩ : ∃ E, wr.heap.size = E := ⟨_, rfl⟩
          have DS0 := hide (show DS w B g ao len cap b q (svc y s) E y s hs wr by rw [← hE]; exact DS.new (unhide HD) (unhide HH))
          have hEl : w.heap.size ≤ E := (unhide DS0).l
          clear HD HH hE
          go_upto_region 12 with fail
          go_cut [10] from 54 to 59 (fun v10 wx => ∃ ba sq, v10 = .pointer (some ⟨ba, 0, none⟩) ∧ Hid (Blk wx ba #[.int .i64 s.next, .string sq, .slice none 0 0] 41) ∧ E ≤ ba ∧ sq.size ≤ 12 ∧ Hid (DS w B g ao len cap b q (svc y s) E y s hs wx))
          case first =>
            refine wp_region_held_drew (S := fun wx => DS w B g ao len cap b q (svc y s) E y s hs wx) (by kernel_rfl) (unhide DS0).drew (fun S0 => ?_)
            generalize wr.drew = wn at S0 ⊢
            refine takeW 0 54 _ rfl rfl S0 ?_
            try simp only [Act.put, List.setIfInBounds_toArray, List.set_cons_zero, List.set_cons_succ]
            refine takeW 1 55 (.int .i64 s.next) rfl rfl S0 ?_ (hy := Or.inl ⟨by rfl, fun wz hz => by (have c3 := DSt.x (DS.d hz) |>.at 3; simp at c3; go_simp)⟩)
            try simp only [Act.put, List.setIfInBounds_toArray, List.set_cons_zero, List.set_cons_succ]
            refine takeW 2 56 _ rfl rfl S0 ?_
            try simp only [Act.put, List.setIfInBounds_toArray, List.set_cons_zero, List.set_cons_succ]
            refine wpAnyH_ready (rs := [3, 6]) (by kernel_rfl) (by simp) (AllReadyH.cons rfl (fun K hK => ?_) (AllReadyH.cons rfl (fun K hK => readyV 10 (by rfl) rfl (run_v (run_allocv _ 41 #[.int .i64 0, .string ⟨#[]⟩, .slice none 0 0] (by kernel_rfl))) ?_) AllReadyH.nil))
            · go_wp2_with fail
              have PT : PickT (wn.alloc (.cells #[.string ⟨#[97]⟩, .string ⟨#[97]⟩, .string ⟨#[98]⟩, .string ⟨#[98, 49]⟩, .string ⟨#[98, 50]⟩] 9)) wn.heap.size 5 := pickt_alloc wn 9 [⟨#[97]⟩, ⟨#[97]⟩, ⟨#[98]⟩, ⟨#[98, 49]⟩, ⟨#[98, 50]⟩] (by decide)
              have hqg : g < wn.heap.size := S0.d.c.1.lt
              refine hK.out _ _ (S0.al _) (fun S1 => ?_)
              clear hK K S0
              try simp only [Act.put, List.setIfInBounds_toArray, List.set_cons_zero, List.set_cons_succ]
              generalize wn.alloc (.cells #[.string ⟨#[97]⟩, .string ⟨#[97]⟩, .string ⟨#[98]⟩, .string ⟨#[98, 49]⟩, .string ⟨#[98, 50]⟩] 9) = wm at PT S1 ⊢
              generalize wn.heap.size = qq at PT hqg ⊢
              have S0 := S1
              clear S1
              obtain ⟨wn, rfl⟩ : ∃ z, z = wm := ⟨_, rfl⟩
              refine wpAnyH_ready (rs := [4, 6]) (by kernel_rfl) (by simp) (AllReadyH.cons rfl (fun K hK => ?_) (AllReadyH.cons rfl (fun K hK => readyV 10 (by rfl) rfl (run_v (run_allocv _ 41 #[.int .i64 0, .string ⟨#[]⟩, .slice none 0 0] (by kernel_rfl))) ?_) AllReadyH.nil))
              · go_simp
                refine (pickS_st qq 5 5 _ S0.d.c.rebase PT (by omega) (by decide) (by decide)).mono ?_
                rintro e wm ⟨sq, rfl, hsq, hcm⟩
                have S1 := S0.cur hcm.1 hcm.2.2.1
                clear S0 hcm PT
                go_wp2_with fail
                refine hK.out _ _ S1 (fun S0 => ?_)
                clear hK K S1
                try simp only [Act.put, List.setIfInBounds_toArray, List.set_cons_zero, List.set_cons_succ]
                obtain ⟨wn, rfl⟩ : ∃ z, z = wm := ⟨_, rfl⟩
                refine takeW 5 59 _ rfl rfl S0 ?_
                try simp only [Act.put, List.setIfInBounds_toArray, List.set_cons_zero, List.set_cons_succ]
                refine wpAnyH_ready (rs := [6]) (by kernel_rfl) (by simp) (AllReadyH.cons rfl (fun K hK => readyV 10 (by rfl) rfl (run_v (run_allocv _ 41 #[.int .i64 0, .string ⟨#[]⟩, .slice none 0 0] (by kernel_rfl))) ?_) AllReadyH.nil)
                have BA := blk_new wn #[.int .i64 0, .string ⟨#[]⟩, .slice none 0 0] 41
                have hba : E ≤ wn.heap.size := S0.e
                refine hK.out _ _ (S0.al _) (fun S1 => ?_)
                clear hK K S0
                try simp only [Act.put, List.setIfInBounds_toArray, List.set_cons_zero, List.set_cons_succ]
                generalize wn.alloc (.cells #[.int .i64 0, .string ⟨#[]⟩, .slice none 0 0] 41) = wm at BA S1 ⊢
                generalize wn.heap.size = ba at BA hba ⊢
                have S0 := S1
                clear S1
                obtain ⟨wn, rfl⟩ : ∃ z, z = wm := ⟨_, rfl⟩
                refine wpAnyH_ready (rs := [7]) (by kernel_rfl) (by simp) (AllReadyH.cons rfl (fun K hK => readyU (by rfl) rfl (run_u (blk_store 41 (arr := #[.int .i64 s.next, .string sq, .slice none 0 0]) BA (by kernel_rfl) rfl (by kernel_rfl))) ?_) AllReadyH.nil)
                have B2 := blk_rw BA #[.int .i64 s.next, .string sq, .slice none 0 0]
                refine hK.out _ _ (S0.out (mks_rw BA #[.int .i64 s.next, .string sq, .slice none 0 0] rfl) (fun k e => by subst e; exact ⟨hba, _, _, ⟨_, BA, rfl⟩, by decide, by decide⟩)) (fun S1 => ?_)
                clear hK K S0 BA
                try simp only [Act.put, List.setIfInBounds_toArray, List.set_cons_zero, List.set_cons_succ]
                refine wpAnyH_done (by kernel_rfl) ?_ _
                go_wp2_with fail
                go_meet
                exact ⟨ba, sq, rfl, hide B2, hba, hsq, hide S1⟩
              · have BA := blk_new wn #[.int .i64 0, .string ⟨#[]⟩, .slice none 0 0] 41
                have hba : E ≤ wn.heap.size := S0.e
                have PT := PT.below (below_al (Below.refl _ wn) (.cells #[.int .i64 0, .string ⟨#[]⟩, .slice none 0 0] 41))
                refine hK.out _ _ (S0.al _) (fun S1 => ?_)
                clear hK K S0
                try simp only [Act.put, List.setIfInBounds_toArray, List.set_cons_zero, List.set_cons_succ]
                generalize wn.alloc (.cells #[.int .i64 0, .string ⟨#[]⟩, .slice none 0 0] 41) = wm at BA S1 PT ⊢
                generalize wn.heap.size = ba at BA hba ⊢
                have S0 := S1
                clear S1
                obtain ⟨wn, rfl⟩ : ∃ z, z = wm := ⟨_, rfl⟩
                refine wpAnyH_ready (rs := [4]) (by kernel_rfl) (by simp) (AllReadyH.cons rfl (fun K hK => ?_) AllReadyH.nil)
                go_simp
                refine (pickS_st qq 5 5 _ S0.d.c.rebase PT (by omega) (by decide) (by decide)).mono ?_
                rintro e wm ⟨sq, rfl, hsq, hcm⟩
                have BA := (cur_mks S0.d.c.1 hcm.1 hcm.2.2.1).blk BA (by omega)
                have S1 := S0.cur hcm.1 hcm.2.2.1
                clear S0 hcm PT
                go_wp2_with fail
                refine hK.out _ _ S1 (fun S0 => ?_)
                clear hK K S1
                try simp only [Act.put, List.setIfInBounds_toArray, List.set_cons_zero, List.set_cons_succ]
                obtain ⟨wn, rfl⟩ : ∃ z, z = wm := ⟨_, rfl⟩
                refine takeW 5 59 _ rfl rfl S0 ?_
                try simp only [Act.put, List.setIfInBounds_toArray, List.set_cons_zero, List.set_cons_succ]
                refine wpAnyH_ready (rs := [7]) (by kernel_rfl) (by simp) (AllReadyH.cons rfl (fun K hK => readyU (by rfl) rfl (run_u (blk_store 41 (arr := #[.int .i64 s.next, .string sq, .slice none 0 0]) BA (by kernel_rfl) rfl (by kernel_rfl))) ?_) AllReadyH.nil)
                have B2 := blk_rw BA #[.int .i64 s.next, .string sq, .slice none 0 0]
                refine hK.out _ _ (S0.out (mks_rw BA #[.int .i64 s.next, .string sq, .slice none 0 0] rfl) (fun k e => by subst e; exact ⟨hba, _, _, ⟨_, BA, rfl⟩, by decide, by decide⟩)) (fun S1 => ?_)
                clear hK K S0 BA
                try simp only [Act.put, List.setIfInBounds_toArray, List.set_cons_zero, List.set_cons_succ]
                refine wpAnyH_done (by kernel_rfl) ?_ _
                go_wp2_with fail
                go_meet
                exact ⟨ba, sq, rfl, hide B2, hba, hsq, hide S1⟩
            · have BA := blk_new wn #[.int .i64 0, .string ⟨#[]⟩, .slice none 0 0] 41
              have hba : E ≤ wn.heap.size := S0.e
              refine hK.out _ _ (S0.al _) (fun S1 => ?_)
              clear hK K S0
              try simp only [Act.put, List.setIfInBounds_toArray, List.set_cons_zero, List.set_cons_succ]
              generalize wn.alloc (.cells #[.int .i64 0, .string ⟨#[]⟩, .slice none 0 0] 41) = wm at BA S1 ⊢
              generalize wn.heap.size = ba at BA hba ⊢
              have S0 := S1
              clear S1
              obtain ⟨wn, rfl⟩ : ∃ z, z = wm := ⟨_, rfl⟩
              refine wpAnyH_ready (rs := [3]) (by kernel_rfl) (by simp) (AllReadyH.cons rfl (fun K hK => ?_) AllReadyH.nil)
              go_wp2_with fail
              have PT : PickT (wn.alloc (.cells #[.string ⟨#[97]⟩, .string ⟨#[97]⟩, .string ⟨#[98]⟩, .string ⟨#[98, 49]⟩, .string ⟨#[98, 50]⟩] 9)) wn.heap.size 5 := pickt_alloc wn 9 [⟨#[97]⟩, ⟨#[97]⟩, ⟨#[98]⟩, ⟨#[98, 49]⟩, ⟨#[98, 50]⟩] (by decide)
              have hqg : g < wn.heap.size := S0.d.c.1.lt
              have BA := BA.al (.cells #[.string ⟨#[97]⟩, .string ⟨#[97]⟩, .string ⟨#[98]⟩, .string ⟨#[98, 49]⟩, .string ⟨#[98, 50]⟩] 9)
              refine hK.out _ _ (S0.al _) (fun S1 => ?_)
              clear hK K S0
              try simp only [Act.put, List.setIfInBounds_toArray, List.set_cons_zero, List.set_cons_succ]
              generalize wn.alloc (.cells #[.string ⟨#[97]⟩, .string ⟨#[97]⟩, .string ⟨#[98]⟩, .string ⟨#[98, 49]⟩, .string ⟨#[98, 50]⟩] 9) = wm at PT S1 BA ⊢
              generalize wn.heap.size = qq at PT hqg ⊢
              have S0 := S1
              clear S1
              obtain ⟨wn, rfl⟩ : ∃ z, z = wm := ⟨_, rfl⟩
              refine wpAnyH_ready (rs := [4]) (by kernel_rfl) (by simp) (AllReadyH.cons rfl (fun K hK => ?_) AllReadyH.nil)
              go_simp
              refine (pickS_st qq 5 5 _ S0.d.c.rebase PT (by omega) (by decide) (by decide)).mono ?_
              rintro e wm ⟨sq, rfl, hsq, hcm⟩
              have BA := (cur_mks S0.d.c.1 hcm.1 hcm.2.2.1).blk BA (by omega)
              have S1 := S0.cur hcm.1 hcm.2.2.1
              clear S0 hcm PT
              go_wp2_with fail
              refine hK.out _ _ S1 (fun S0 => ?_)
              clear hK K S1
              try simp only [Act.put, List.setIfInBounds_toArray, List.set_cons_zero, List.set_cons_succ]
              obtain ⟨wn, rfl⟩ : ∃ z, z = wm := ⟨_, rfl⟩
              refine takeW 5 59 _ rfl rfl S0 ?_
              try simp only [Act.put, List.setIfInBounds_toArray, List.set_cons_zero, List.set_cons_succ]
              refine wpAnyH_ready (rs := [7]) (by kernel_rfl) (by simp) (AllReadyH.cons rfl (fun K hK => readyU (by rfl) rfl (run_u (blk_store 41 (arr := #[.int .i64 s.next, .string sq, .slice none 0 0]) BA (by kernel_rfl) rfl (by kernel_rfl))) ?_) AllReadyH.nil)
              have B2 := blk_rw BA #[.int .i64 s.next, .string sq, .slice none 0 0]
              refine hK.out _ _ (S0.out (mks_rw BA #[.int .i64 s.next, .string sq, .slice none 0 0] rfl) (fun k e => by subst e; exact ⟨hba, _, _, ⟨_, BA, rfl⟩, by decide, by decide⟩)) (fun S1 => ?_)
              clear hK K S0 BA
              try simp only [Act.put, List.setIfInBounds_toArray, List.set_cons_zero, List.set_cons_succ]
              refine wpAnyH_done (by kernel_rfl) ?_ _
              go_wp2_with fail
              go_meet
              exact ⟨ba, sq, rfl, hide B2, hba, hsq, hide S1⟩
          case rest =>
            obtain ⟨ba, sq, rfl, HBA, hba, hsq, HDS⟩ := hcut
            obtain ⟨lq, rfl⟩ : ∃ l, sq = bs l := ⟨_, (bs_bk _).symm⟩
            rw [bs_size] at hsq
            clear DS0
            have HLF := hide (fun wx (hx : DS w B g ao len cap b q (svc y s) E y s hs wx) => specLeaf_any y.qa y.ql y.qc s.qs lq wx hx.a.row.1 (by have := hx.a.row.1.1; have := (unhide HS).q.1; omega) (fun z hz => by have := (unhide HS).q.2 z hz; omega))
            have c0 := (unhide HDS).d.x.at 0
            have c1 := (unhide HBA).at 1
            simp at c0 c1
            go_wp2_with fail
            refine (unhide HLF _ (unhide HDS)).mono ?_
            rintro e wd ⟨rfl, hb⟩
            have B2 := hide ((unhide HBA).below hb)
            have S2 := hide ((unhide HDS).below hb)
            generalize leaf s.qs lq = lf
            clear c0 c1 hb HBA HDS
            go_upto_if 65 with fail
            go_cut [] from 60 to 66 (fun wx => ∃ lz : List UInt8, lz.length ≤ 12 ∧ Hid (Blk wx ba #[.int .i64 s.next, .string (bs lz), .slice none 0 0] 41) ∧ Hid (DS w B g ao len cap b q (svc y s) E y s hs wx))
            case first =>
              cases lf
              · have c1 := (unhide B2).at 1
                have f1 := (unhide B2).f 1
                simp at c1
                go_wp2_with fail
                go_meet
                exact ⟨[97], by decide, hide ((unhide B2).set 1 (.string (bs [97]))), hide ((unhide S2).out (Mks.one (fun k => k = ba) wd ba 1 _ rfl) (fun k e => by subst e; exact ⟨hba, _, _, ⟨_, unhide B2, rfl⟩, by decide, by decide⟩))⟩
              · go_wp2_with fail
                go_meet
                exact ⟨lq, hsq, B2, S2⟩
            case rest =>
              clear B2 S2 HLF hsq
              obtain ⟨lz, hlz, HBA, HDS⟩ := hcut
              go_wp2_with fail
              refine (below_st 3 _ (unhide HDS).d.c (by decide) (by decide)).mono ?_
              rintro e w7 ⟨nj, rfl, hn0, hn1, hc7, hg7⟩
              have D7 := hide ((unhide HDS).cur hc7.1 hg7)
              have B7 := hide ((cur_mks (unhide HDS).d.c.1 hc7.1 hg7).blk (unhide HBA) (by omega))
              obtain ⟨nj, rfl⟩ := Int.eq_ofNat_of_zero_le hn0
              have hnj : nj ≤ 2 := by omega
              clear HBA HDS hc7 hg7 hn0 hn1
              go_wp2
              go_loopw [12] (fun i wr => ∃ (j : Nat) (ak : List Ask) (ko : Option Addr) (kc : Nat), j ≤ nj ∧ i = .int .i64 j ∧ Hid (Blk wr ba #[.int .i64 s.next, .string (bs lz), .slice ko j kc] 41) ∧ Hid (DS w B g ao len cap b q (svc y s) E y s hs wr) ∧ Hid (AskRow wr ko j ak ∧ Own1 E wr.heap.size wr 96 5 ko kc ∧ j ≤ kc) ∧ Hid (∀ z ∈ ak, z.node.length ≤ 12)) (fun i _ => nj - (intOf i).toNat)
              case atStart => exact ⟨0, [], none, 0, Nat.zero_le _, rfl, B7, D7, hide ⟨⟨rfl, .inl rfl⟩, .inl rfl, Nat.le_refl _⟩, hide (fun z hz => absurd hz (by simp))⟩
              case round =>
                clear B7 D7
                obtain ⟨j, ak, ko, kc, hj, rfl, HB, HD, HA, HN⟩ := hrel
                by_cases hlt : j < nj
                · have j2 : (j : Int) < nj := by omega
                  have TA := hide (show AS w B g ao len cap b q (svc y s) E y s hs ba #[.int .i64 s.next, .string (bs lz), .slice ko j kc] ko j kc ak wr from ⟨unhide HD, unhide HB, hba, (unhide HA).1, (unhide HA).2.1, (unhide HA).2.2⟩)
                  clear HB HD HA
                  go_upto_region 19 with fail
                  refine wp_region_x 18 (fun _ => True) (fun wx => AS w B g ao len cap b q (svc y s) E y s hs ba #[.int .i64 s.next, .string (bs lz), .slice ko j kc] ko j kc ak wx) (by kernel_rfl) trivial (unhide TA).drew (fun S0 T0 => ?_)
                  generalize wr.drew = wn at T0 ⊢
                  refine takeXS 0 74 _ rfl rfl S0 T0 ?_
                  try simp only [Act.put, List.setIfInBounds_toArray, List.set_cons_zero, List.set_cons_succ]
                  refine takeXT 1 75 (.slice ko j kc) rfl rfl S0 T0 ?_ (hy := Or.inl ⟨by rfl, fun wz hz => by (have c2 := (AS.x hz).at 2; simp at c2; go_simp)⟩)
                  try simp only [Act.put, List.setIfInBounds_toArray, List.set_cons_zero, List.set_cons_succ]
                  refine takeXS 2 76 _ rfl rfl S0 T0 ?_
                  try simp only [Act.put, List.setIfInBounds_toArray, List.set_cons_zero, List.set_cons_succ]
                  refine takeXS 5 79 _ rfl rfl S0 T0 ?_
                  try simp only [Act.put, List.setIfInBounds_toArray, List.set_cons_zero, List.set_cons_succ]
                  refine takeXS 8 82 _ rfl rfl S0 T0 ?_
                  try simp only [Act.put, List.setIfInBounds_toArray, List.set_cons_zero, List.set_cons_succ]
                  refine takeXS 11 85 _ rfl rfl S0 T0 ?_
                  try simp only [Act.put, List.setIfInBounds_toArray, List.set_cons_zero, List.set_cons_succ]
                  refine takeXS 14 88 _ rfl rfl S0 T0 ?_
                  try simp only [Act.put, List.setIfInBounds_toArray, List.set_cons_zero, List.set_cons_succ]
                  refine wpAnyX_ready [3, 12] (AllReadyX.cons rfl (fun K hK => ?_) (AllReadyX.cons rfl (fun K hK => ?_) AllReadyX.nil))
                  · go_simp
                    refine (below_st 6 _ T0.s.d.c.rebase (by decide) (by decide)).mono ?_
                    rintro e wm ⟨x3, rfl, hx3a, hx3b, hcn, hgn⟩
                    have T1 := T0.cur hcn.1 hgn
                    clear S0 T0 hcn hgn
                    go_wp2_with fail
                    refine hK.out _ _ trivial (fun _ => T1) ?_
                    clear hK K
                    have S0 := trivial
                    have T0 := T1
                    clear T1
                    try simp only [Act.put, List.setIfInBounds_toArray, List.set_cons_zero, List.set_cons_succ]
                    obtain ⟨wn, rfl⟩ : ∃ z, z = wm := ⟨_, rfl⟩
                    refine takeXS 4 78 (.int .i64 (1 + x3)) rfl rfl S0 T0 ?_ (hy := Or.inl ⟨by rfl, fun wz hz => by (go_simp; rw [IntKind.wrap_i64]; omega)⟩)
                    try simp only [Act.put, List.setIfInBounds_toArray, List.set_cons_zero, List.set_cons_succ]
                    refine wpAnyX_ready [6, 12] (AllReadyX.cons rfl (fun K hK => ?_) (AllReadyX.cons rfl (fun K hK => ?_) AllReadyX.nil))
                    · go_simp
                      refine (below_st 3 _ T0.s.d.c.rebase (by decide) (by decide)).mono ?_
                      rintro e wm ⟨x6, rfl, hx6a, hx6b, hcn, hgn⟩
                      have T1 := T0.cur hcn.1 hgn
                      clear S0 T0 hcn hgn
                      go_wp2_with fail
                      refine hK.out _ _ trivial (fun _ => T1) ?_
                      clear hK K
                      have S0 := trivial
                      have T0 := T1
                      clear T1
                      try simp only [Act.put, List.setIfInBounds_toArray, List.set_cons_zero, List.set_cons_succ]
                      obtain ⟨wn, rfl⟩ : ∃ z, z = wm := ⟨_, rfl⟩
                      refine takeXS 7 81 _ rfl rfl S0 T0 ?_
                      try simp only [Act.put, List.setIfInBounds_toArray, List.set_cons_zero, List.set_cons_succ]
                      refine wpAnyX_ready [9, 12] (AllReadyX.cons rfl (fun K hK => ?_) (AllReadyX.cons rfl (fun K hK => ?_) AllReadyX.nil))
                      · go_simp
                        refine (below_st 4 _ T0.s.d.c.rebase (by decide) (by decide)).mono ?_
                        rintro e wm ⟨x9, rfl, hx9a, hx9b, hcn, hgn⟩
                        have T1 := T0.cur hcn.1 hgn
                        clear S0 T0 hcn hgn
                        go_wp2_with fail
                        refine hK.out _ _ trivial (fun _ => T1) ?_
                        clear hK K
                        have S0 := trivial
                        have T0 := T1
                        clear T1
                        try simp only [Act.put, List.setIfInBounds_toArray, List.set_cons_zero, List.set_cons_succ]
                        obtain ⟨wn, rfl⟩ : ∃ z, z = wm := ⟨_, rfl⟩
                        refine takeXS 10 84 (.int .i64 (1 + x9)) rfl rfl S0 T0 ?_ (hy := Or.inl ⟨by rfl, fun wz hz => by (go_simp; rw [IntKind.wrap_i64]; omega)⟩)
                        try simp only [Act.put, List.setIfInBounds_toArray, List.set_cons_zero, List.set_cons_succ]
                        refine wpAnyX_ready [12] (AllReadyX.cons rfl (fun K hK => ?_) AllReadyX.nil)
                        go_wp2_with fail
                        have PT : PickT (wn.alloc (.cells #[.string ⟨#[]⟩, .string ⟨#[]⟩, .string ⟨#[109, 49]⟩, .string ⟨#[109, 50]⟩, .string ⟨#[122, 122]⟩] 9)) wn.heap.size 5 := pickt_alloc wn 9 [⟨#[]⟩, ⟨#[]⟩, ⟨#[109, 49]⟩, ⟨#[109, 50]⟩, ⟨#[122, 122]⟩] (by decide)
                        have hqg : g < wn.heap.size := T0.s.d.c.1.lt
                        have T1 := T0.al (.cells #[.string ⟨#[]⟩, .string ⟨#[]⟩, .string ⟨#[109, 49]⟩, .string ⟨#[109, 50]⟩, .string ⟨#[122, 122]⟩] 9)
                        refine hK.out _ _ trivial (fun _ => T1) ?_
                        clear hK K T0
                        try simp only [Act.put, List.setIfInBounds_toArray, List.set_cons_zero, List.set_cons_succ]
                        generalize wn.alloc (.cells #[.string ⟨#[]⟩, .string ⟨#[]⟩, .string ⟨#[109, 49]⟩, .string ⟨#[109, 50]⟩, .string ⟨#[122, 122]⟩] 9) = wm at PT T1 ⊢
                        generalize wn.heap.size = qq at PT hqg ⊢
                        have T0 := T1
                        clear T1
                        obtain ⟨wn, rfl⟩ : ∃ z, z = wm := ⟨_, rfl⟩
                        refine wpAnyX_ready [13] (AllReadyX.cons rfl (fun K hK => ?_) AllReadyX.nil)
                        go_simp
                        refine (pickS_st qq 5 5 _ T0.s.d.c.rebase PT (by omega) (by decide) (by decide)).mono ?_
                        rintro e wm ⟨sq, rfl, hsq, hcm⟩
                        obtain ⟨ln, rfl⟩ : ∃ l, sq = bs l := ⟨_, (bs_bk _).symm⟩
                        rw [bs_size] at hsq
                        have T1 := T0.cur hcm.1 hcm.2.2.1
                        clear S0 T0 hcm PT
                        go_wp2_with fail
                        refine hK.out _ _ trivial (fun _ => T1) ?_
                        clear hK K
                        have S0 := trivial
                        have T0 := T1
                        clear T1
                        try simp only [Act.put, List.setIfInBounds_toArray, List.set_cons_zero, List.set_cons_succ]
                        obtain ⟨wn, rfl⟩ : ∃ z, z = wm := ⟨_, rfl⟩
                        refine wpAnyX_ready [15] (AllReadyX.cons rfl (fun K hK => ?_) AllReadyX.nil)
                        go_simp
                        refine (below_st 4 _ T0.s.d.c.rebase (by decide) (by decide)).mono ?_
                        rintro e wm ⟨x15, rfl, hx15a, hx15b, hcn, hgn⟩
                        have T1 := T0.cur hcn.1 hgn
                        clear S0 T0 hcn hgn
                        go_wp2_with fail
                        refine hK.out _ _ trivial (fun _ => T1) ?_
                        clear hK K
                        have S0 := trivial
                        have T0 := T1
                        clear T1
                        try simp only [Act.put, List.setIfInBounds_toArray, List.set_cons_zero, List.set_cons_succ]
                        obtain ⟨wn, rfl⟩ : ∃ z, z = wm := ⟨_, rfl⟩
                        refine takeXS 16 90 (.agg #[.int .i64 (1 + x3), .int .i64 x6, .int .i64 (1 + x9), .string (bs ln), .int .i64 x15]) rfl rfl S0 T0 ?_ (hy := Or.inl ⟨by rfl, fun wz hz => by go_simp⟩)
                        try simp only [Act.put, List.setIfInBounds_toArray, List.set_cons_zero, List.set_cons_succ]
                        have hbn := below_al (Below.refl _ wn) (.cells #[.int .i64 (1 + x3), .int .i64 x6, .int .i64 (1 + x9), .string (bs ln), .int .i64 x15] 96)
                        obtain ⟨g4, cp, w4, hrun, HA⟩ := runA (B := E) T0.r T0.o T0.c (by omega) T0.s.e ⟨1 + x3, x6, 1 + x9, ln, x15⟩
                        simp only at hrun HA
                        have D3 := (T0.below hbn).app ⟨1 + x3, x6, 1 + x9, ln, x15⟩ (unhide HA)
                        have D4 := hide (D3.set 2 (.slice (some ⟨g4, 0, none⟩) (j + 1) cp))
                        have X3 := D3.x
                        refine wpAnyX_ready [17] (AllReadyX.cons rfl (fun K hK => readyV 91 (by rfl) rfl (run_v (run_bs5 wn 39 96 _ (.agg #[.int .i64 0, .int .i64 0, .int .i64 0, .string ByteArray.empty, .int .i64 0]) (.int .i64 (1 + x3)) (.int .i64 x6) (.int .i64 (1 + x9)) (.string (bs ln)) (.int .i64 x15) Tryz.underlying39 (by kernel_rfl) (by simp only [List.map_toArray, List.map_cons, List.map_nil]; rfl))) ?_) AllReadyX.nil)
                        refine hK.out _ _ trivial (fun _ => T0.below hbn) ?_
                        clear hK K
                        try simp only [Act.put, List.setIfInBounds_toArray, List.set_cons_zero, List.set_cons_succ]
                        refine wpAnyX_ready [18] (AllReadyX.cons rfl (fun K hK => readyV 92 (by rfl) rfl (exec_append rfl rfl rfl hrun) ?_) AllReadyX.nil)
                        refine hK.out _ _ trivial (xno (by kernel_rfl)) ?_
                        clear hK K hrun T0 D3 HA hbn
                        try simp only [Act.put, List.setIfInBounds_toArray, List.set_cons_zero, List.set_cons_succ]
                        refine wpAnyX_on _ _ _ _ (by kernel_rfl) ?_
                        refine takeW 19 93 _ rfl rfl trivial ?_
                        try simp only [Act.put, List.setIfInBounds_toArray, List.set_cons_zero, List.set_cons_succ]
                        refine wpAnyH_ready (rs := [20]) (by kernel_rfl) (by simp) (AllReadyH.cons rfl (fun K hK => readyU (by rfl) rfl (run_u (put_cell 39 (.slice (some ⟨g4, 0, none⟩) (j + 1) cp) X3 (by show 2 < 3; decide) (by kernel_rfl) rfl)) ?_) AllReadyH.nil)
                        refine hK.out _ _ trivial (fun _ => ?_)
                        clear hK K X3
                        try simp only [Act.put, List.setIfInBounds_toArray, List.set_cons_zero, List.set_cons_succ]
                        refine wpAnyH_done (by kernel_rfl) ?_ _
                        generalize w4.setCell ⟨ba, 2, none⟩ (.slice (some ⟨g4, 0, none⟩) (j + 1) cp) = w5 at D4 ⊢
                        go_wp2
                        go_roundw
                        case rel => exact ⟨j + 1, ak ++ [⟨1 + x3, x6, 1 + x9, ln, x15⟩], some ⟨g4, 0, none⟩, cp, by omega, by go_num, hide (unhide D4).x, hide (unhide D4).s, hide ⟨(unhide D4).r, (unhide D4).o, (unhide D4).c⟩, hide (fun z hz => by rcases List.mem_append.1 hz with hz | hz; exact unhide HN z hz; simp at hz; subst hz; exact hsq)⟩
                        case measure => simp [intOf]; omega
                      · go_wp2_with fail
                        have PT : PickT (wn.alloc (.cells #[.string ⟨#[]⟩, .string ⟨#[]⟩, .string ⟨#[109, 49]⟩, .string ⟨#[109, 50]⟩, .string ⟨#[122, 122]⟩] 9)) wn.heap.size 5 := pickt_alloc wn 9 [⟨#[]⟩, ⟨#[]⟩, ⟨#[109, 49]⟩, ⟨#[109, 50]⟩, ⟨#[122, 122]⟩] (by decide)
                        have hqg : g < wn.heap.size := T0.s.d.c.1.lt
                        have T1 := T0.al (.cells #[.string ⟨#[]⟩, .string ⟨#[]⟩, .string ⟨#[109, 49]⟩, .string ⟨#[109, 50]⟩, .string ⟨#[122, 122]⟩] 9)
                        refine hK.out _ _ trivial (fun _ => T1) ?_
                        clear hK K T0
                        try simp only [Act.put, List.setIfInBounds_toArray, List.set_cons_zero, List.set_cons_succ]
                        generalize wn.alloc (.cells #[.string ⟨#[]⟩, .string ⟨#[]⟩, .string ⟨#[109, 49]⟩, .string ⟨#[109, 50]⟩, .string ⟨#[122, 122]⟩] 9) = wm at PT T1 ⊢
                        generalize wn.heap.size = qq at PT hqg ⊢
                        have T0 := T1
                        clear T1
                        obtain ⟨wn, rfl⟩ : ∃ z, z = wm := ⟨_, rfl⟩
                        refine wpAnyX_ready [9] (AllReadyX.cons rfl (fun K hK => ?_) AllReadyX.nil)
                        go_simp
                        refine (below_st 4 _ T0.s.d.c.rebase (by decide) (by decide)).mono ?_
                        rintro e wm ⟨x9, rfl, hx9a, hx9b, hcn, hgn⟩
                        have PT := PT.cur hgn (by omega)
                        have T1 := T0.cur hcn.1 hgn
                        clear S0 T0 hcn hgn
                        go_wp2_with fail
                        refine hK.out _ _ trivial (fun _ => T1) ?_
                        clear hK K
                        have S0 := trivial
                        have T0 := T1
                        clear T1
                        try simp only [Act.put, List.setIfInBounds_toArray, List.set_cons_zero, List.set_cons_succ]
                        obtain ⟨wn, rfl⟩ : ∃ z, z = wm := ⟨_, rfl⟩
                        refine takeXS 10 84 (.int .i64 (1 + x9)) rfl rfl S0 T0 ?_ (hy := Or.inl ⟨by rfl, fun wz hz => by (go_simp; rw [IntKind.wrap_i64]; omega)⟩)
                        try simp only [Act.put, List.setIfInBounds_toArray, List.set_cons_zero, List.set_cons_succ]
                        refine wpAnyX_ready [13] (AllReadyX.cons rfl (fun K hK => ?_) AllReadyX.nil)
                        go_simp
                        refine (pickS_st qq 5 5 _ T0.s.d.c.rebase PT (by omega) (by decide) (by decide)).mono ?_
                        rintro e wm ⟨sq, rfl, hsq, hcm⟩
                        obtain ⟨ln, rfl⟩ : ∃ l, sq = bs l := ⟨_, (bs_bk _).symm⟩
                        rw [bs_size] at hsq
                        have T1 := T0.cur hcm.1 hcm.2.2.1
                        clear S0 T0 hcm PT
                        go_wp2_with fail
                        refine hK.out _ _ trivial (fun _ => T1) ?_
                        clear hK K
                        have S0 := trivial
                        have T0 := T1
                        clear T1
                        try simp only [Act.put, List.setIfInBounds_toArray, List.set_cons_zero, List.set_cons_succ]
                        obtain ⟨wn, rfl⟩ : ∃ z, z = wm := ⟨_, rfl⟩
                        refine wpAnyX_ready [15] (AllReadyX.cons rfl (fun K hK => ?_) AllReadyX.nil)
                        go_simp
                        refine (below_st 4 _ T0.s.d.c.rebase (by decide) (by decide)).mono ?_
                        rintro e wm ⟨x15, rfl, hx15a, hx15b, hcn, hgn⟩
                        have T1 := T0.cur hcn.1 hgn
                        clear S0 T0 hcn hgn
                        go_wp2_with fail
                        refine hK.out _ _ trivial (fun _ => T1) ?_
                        clear hK K
                        have S0 := trivial
                        have T0 := T1
                        clear T1
                        try simp only [Act.put, List.setIfInBounds_toArray, List.set_cons_zero, List.set_cons_succ]
                        obtain ⟨wn, rfl⟩ : ∃ z, z = wm := ⟨_, rfl⟩
                        refine takeXS 16 90 (.agg #[.int .i64 (1 + x3), .int .i64 x6, .int .i64 (1 + x9), .string (bs ln), .int .i64 x15]) rfl rfl S0 T0 ?_ (hy := Or.inl ⟨by rfl, fun wz hz => by go_simp⟩)
                        try simp only [Act.put, List.setIfInBounds_toArray, List.set_cons_zero, List.set_cons_succ]
                        have hbn := below_al (Below.refl _ wn) (.cells #[.int .i64 (1 + x3), .int .i64 x6, .int .i64 (1 + x9), .string (bs ln), .int .i64 x15] 96)
                        obtain ⟨g4, cp, w4, hrun, HA⟩ := runA (B := E) T0.r T0.o T0.c (by omega) T0.s.e ⟨1 + x3, x6, 1 + x9, ln, x15⟩
                        simp only at hrun HA
                        have D3 := (T0.below hbn).app ⟨1 + x3, x6, 1 + x9, ln, x15⟩ (unhide HA)
                        have D4 := hide (D3.set 2 (.slice (some ⟨g4, 0, none⟩) (j + 1) cp))
                        have X3 := D3.x
                        refine wpAnyX_ready [17] (AllReadyX.cons rfl (fun K hK => readyV 91 (by rfl) rfl (run_v (run_bs5 wn 39 96 _ (.agg #[.int .i64 0, .int .i64 0, .int .i64 0, .string ByteArray.empty, .int .i64 0]) (.int .i64 (1 + x3)) (.int .i64 x6) (.int .i64 (1 + x9)) (.string (bs ln)) (.int .i64 x15) Tryz.underlying39 (by kernel_rfl) (by simp only [List.map_toArray, List.map_cons, List.map_nil]; rfl))) ?_) AllReadyX.nil)
                        refine hK.out _ _ trivial (fun _ => T0.below hbn) ?_
                        clear hK K
                        try simp only [Act.put, List.setIfInBounds_toArray, List.set_cons_zero, List.set_cons_succ]
                        refine wpAnyX_ready [18] (AllReadyX.cons rfl (fun K hK => readyV 92 (by rfl) rfl (exec_append rfl rfl rfl hrun) ?_) AllReadyX.nil)
                        refine hK.out _ _ trivial (xno (by kernel_rfl)) ?_
                        clear hK K hrun T0 D3 HA hbn
                        try simp only [Act.put, List.setIfInBounds_toArray, List.set_cons_zero, List.set_cons_succ]
                        refine wpAnyX_on _ _ _ _ (by kernel_rfl) ?_
                        refine takeW 19 93 _ rfl rfl trivial ?_
                        try simp only [Act.put, List.setIfInBounds_toArray, List.set_cons_zero, List.set_cons_succ]
                        refine wpAnyH_ready (rs := [20]) (by kernel_rfl) (by simp) (AllReadyH.cons rfl (fun K hK => readyU (by rfl) rfl (run_u (put_cell 39 (.slice (some ⟨g4, 0, none⟩) (j + 1) cp) X3 (by show 2 < 3; decide) (by kernel_rfl) rfl)) ?_) AllReadyH.nil)
                        refine hK.out _ _ trivial (fun _ => ?_)
                        clear hK K X3
                        try simp only [Act.put, List.setIfInBounds_toArray, List.set_cons_zero, List.set_cons_succ]
                        refine wpAnyH_done (by kernel_rfl) ?_ _
                        generalize w4.setCell ⟨ba, 2, none⟩ (.slice (some ⟨g4, 0, none⟩) (j + 1) cp) = w5 at D4 ⊢
                        go_wp2
                        go_roundw
                        case rel => exact ⟨j + 1, ak ++ [⟨1 + x3, x6, 1 + x9, ln, x15⟩], some ⟨g4, 0, none⟩, cp, by omega, by go_num, hide (unhide D4).x, hide (unhide D4).s, hide ⟨(unhide D4).r, (unhide D4).o, (unhide D4).c⟩, hide (fun z hz => by rcases List.mem_append.1 hz with hz | hz; exact unhide HN z hz; simp at hz; subst hz; exact hsq)⟩
                        case measure => simp [intOf]; omega
                    · go_wp2_with fail
                      have PT : PickT (wn.alloc (.cells #[.string ⟨#[]⟩, .string ⟨#[]⟩, .string ⟨#[109, 49]⟩, .string ⟨#[109, 50]⟩, .string ⟨#[122, 122]⟩] 9)) wn.heap.size 5 := pickt_alloc wn 9 [⟨#[]⟩, ⟨#[]⟩, ⟨#[109, 49]⟩, ⟨#[109, 50]⟩, ⟨#[122, 122]⟩] (by decide)
                      have hqg : g < wn.heap.size := T0.s.d.c.1.lt
                      have T1 := T0.al (.cells #[.string ⟨#[]⟩, .string ⟨#[]⟩, .string ⟨#[109, 49]⟩, .string ⟨#[109, 50]⟩, .string ⟨#[122, 122]⟩] 9)
                      refine hK.out _ _ trivial (fun _ => T1) ?_
                      clear hK K T0
                      try simp only [Act.put, List.setIfInBounds_toArray, List.set_cons_zero, List.set_cons_succ]
                      generalize wn.alloc (.cells #[.string ⟨#[]⟩, .string ⟨#[]⟩, .string ⟨#[109, 49]⟩, .string ⟨#[109, 50]⟩, .string ⟨#[122, 122]⟩] 9) = wm at PT T1 ⊢
                      generalize wn.heap.size = qq at PT hqg ⊢
                      have T0 := T1
                      clear T1
                      obtain ⟨wn, rfl⟩ : ∃ z, z = wm := ⟨_, rfl⟩
                      refine wpAnyX_ready [6] (AllReadyX.cons rfl (fun K hK => ?_) AllReadyX.nil)
                      go_simp
                      refine (below_st 3 _ T0.s.d.c.rebase (by decide) (by decide)).mono ?_
                      rintro e wm ⟨x6, rfl, hx6a, hx6b, hcn, hgn⟩
                      have PT := PT.cur hgn (by omega)
                      have T1 := T0.cur hcn.1 hgn
                      clear S0 T0 hcn hgn
                      go_wp2_with fail
                      refine hK.out _ _ trivial (fun _ => T1) ?_
                      clear hK K
                      have S0 := trivial
                      have T0 := T1
                      clear T1
                      try simp only [Act.put, List.setIfInBounds_toArray, List.set_cons_zero, List.set_cons_succ]
                      obtain ⟨wn, rfl⟩ : ∃ z, z = wm := ⟨_, rfl⟩
                      refine takeXS 7 81 _ rfl rfl S0 T0 ?_
                      try simp only [Act.put, List.setIfInBounds_toArray, List.set_cons_zero, List.set_cons_succ]
                      refine wpAnyX_ready [9] (AllReadyX.cons rfl (fun K hK => ?_) AllReadyX.nil)
                      go_simp
                      refine (below_st 4 _ T0.s.d.c.rebase (by decide) (by decide)).mono ?_
                      rintro e wm ⟨x9, rfl, hx9a, hx9b, hcn, hgn⟩
                      have PT := PT.cur hgn (by omega)
                      have T1 := T0.cur hcn.1 hgn
                      clear S0 T0 hcn hgn
                      go_wp2_with fail
                      refine hK.out _ _ trivial (fun _ => T1) ?_
                      clear hK K
                      have S0 := trivial
                      have T0 := T1
                      clear T1
                      try simp only [Act.put, List.setIfInBounds_toArray, List.set_cons_zero, List.set_cons_succ]
                      obtain ⟨wn, rfl⟩ : ∃ z, z = wm := ⟨_, rfl⟩
                      refine takeXS 10 84 (.int .i64 (1 + x9)) rfl rfl S0 T0 ?_ (hy := Or.inl ⟨by rfl, fun wz hz => by (go_simp; rw [IntKind.wrap_i64]; omega)⟩)
                      try simp only [Act.put, List.setIfInBounds_toArray, List.set_cons_zero, List.set_cons_succ]
                      refine wpAnyX_ready [13] (AllReadyX.cons rfl (fun K hK => ?_) AllReadyX.nil)
                      go_simp
                      refine (pickS_st qq 5 5 _ T0.s.d.c.rebase PT (by omega) (by decide) (by decide)).mono ?_
                      rintro e wm ⟨sq, rfl, hsq, hcm⟩
                      obtain ⟨ln, rfl⟩ : ∃ l, sq = bs l := ⟨_, (bs_bk _).symm⟩
                      rw [bs_size] at hsq
                      have T1 := T0.cur hcm.1 hcm.2.2.1
                      clear S0 T0 hcm PT
                      go_wp2_with fail
                      refine hK.out _ _ trivial (fun _ => T1) ?_
                      clear hK K
                      have S0 := trivial
                      have T0 := T1
                      clear T1
                      try simp only [Act.put, List.setIfInBounds_toArray, List.set_cons_zero, List.set_cons_succ]
                      obtain ⟨wn, rfl⟩ : ∃ z, z = wm := ⟨_, rfl⟩
                      refine wpAnyX_ready [15] (AllReadyX.cons rfl (fun K hK => ?_) AllReadyX.nil)
                      go_simp
                      refine (below_st 4 _ T0.s.d.c.rebase (by decide) (by decide)).mono ?_
                      rintro e wm ⟨x15, rfl, hx15a, hx15b, hcn, hgn⟩
                      have T1 := T0.cur hcn.1 hgn
                      clear S0 T0 hcn hgn
                      go_wp2_with fail
                      refine hK.out _ _ trivial (fun _ => T1) ?_
                      clear hK K
                      have S0 := trivial
                      have T0 := T1
                      clear T1
                      try simp only [Act.put, List.setIfInBounds_toArray, List.set_cons_zero, List.set_cons_succ]
                      obtain ⟨wn, rfl⟩ : ∃ z, z = wm := ⟨_, rfl⟩
                      refine takeXS 16 90 (.agg #[.int .i64 (1 + x3), .int .i64 x6, .int .i64 (1 + x9), .string (bs ln), .int .i64 x15]) rfl rfl S0 T0 ?_ (hy := Or.inl ⟨by rfl, fun wz hz => by go_simp⟩)
                      try simp only [Act.put, List.setIfInBounds_toArray, List.set_cons_zero, List.set_cons_succ]
                      have hbn := below_al (Below.refl _ wn) (.cells #[.int .i64 (1 + x3), .int .i64 x6, .int .i64 (1 + x9), .string (bs ln), .int .i64 x15] 96)
                      obtain ⟨g4, cp, w4, hrun, HA⟩ := runA (B := E) T0.r T0.o T0.c (by omega) T0.s.e ⟨1 + x3, x6, 1 + x9, ln, x15⟩
                      simp only at hrun HA
                      have D3 := (T0.below hbn).app ⟨1 + x3, x6, 1 + x9, ln, x15⟩ (unhide HA)
                      have D4 := hide (D3.set 2 (.slice (some ⟨g4, 0, none⟩) (j + 1) cp))
                      have X3 := D3.x
                      refine wpAnyX_ready [17] (AllReadyX.cons rfl (fun K hK => readyV 91 (by rfl) rfl (run_v (run_bs5 wn 39 96 _ (.agg #[.int .i64 0, .int .i64 0, .int .i64 0, .string ByteArray.empty, .int .i64 0]) (.int .i64 (1 + x3)) (.int .i64 x6) (.int .i64 (1 + x9)) (.string (bs ln)) (.int .i64 x15) Tryz.underlying39 (by kernel_rfl) (by simp only [List.map_toArray, List.map_cons, List.map_nil]; rfl))) ?_) AllReadyX.nil)
                      refine hK.out _ _ trivial (fun _ => T0.below hbn) ?_
                      clear hK K
                      try simp only [Act.put, List.setIfInBounds_toArray, List.set_cons_zero, List.set_cons_succ]
                      refine wpAnyX_ready [18] (AllReadyX.cons rfl (fun K hK => readyV 92 (by rfl) rfl (exec_append rfl rfl rfl hrun) ?_) AllReadyX.nil)
                      refine hK.out _ _ trivial (xno (by kernel_rfl)) ?_
                      clear hK K hrun T0 D3 HA hbn
                      try simp only [Act.put, List.setIfInBounds_toArray, List.set_cons_zero, List.set_cons_succ]
                      refine wpAnyX_on _ _ _ _ (by kernel_rfl) ?_
                      refine takeW 19 93 _ rfl rfl trivial ?_
                      try simp only [Act.put, List.setIfInBounds_toArray, List.set_cons_zero, List.set_cons_succ]
                      refine wpAnyH_ready (rs := [20]) (by kernel_rfl) (by simp) (AllReadyH.cons rfl (fun K hK => readyU (by rfl) rfl (run_u (put_cell 39 (.slice (some ⟨g4, 0, none⟩) (j + 1) cp) X3 (by show 2 < 3; decide) (by kernel_rfl) rfl)) ?_) AllReadyH.nil)
                      refine hK.out _ _ trivial (fun _ => ?_)
                      clear hK K X3
                      try simp only [Act.put, List.setIfInBounds_toArray, List.set_cons_zero, List.set_cons_succ]
                      refine wpAnyH_done (by kernel_rfl) ?_ _
                      generalize w4.setCell ⟨ba, 2, none⟩ (.slice (some ⟨g4, 0, none⟩) (j + 1) cp) = w5 at D4 ⊢
                      go_wp2
                      go_roundw
                      case rel => exact ⟨j + 1, ak ++ [⟨1 + x3, x6, 1 + x9, ln, x15⟩], some ⟨g4, 0, none⟩, cp, by omega, by go_num, hide (unhide D4).x, hide (unhide D4).s, hide ⟨(unhide D4).r, (unhide D4).o, (unhide D4).c⟩, hide (fun z hz => by rcases List.mem_append.1 hz with hz | hz; exact unhide HN z hz; simp at hz; subst hz; exact hsq)⟩
                      case measure => simp [intOf]; omega
                  · go_wp2_with fail
                    have PT : PickT (wn.alloc (.cells #[.string ⟨#[]⟩, .string ⟨#[]⟩, .string ⟨#[109, 49]⟩, .string ⟨#[109, 50]⟩, .string ⟨#[122, 122]⟩] 9)) wn.heap.size 5 := pickt_alloc wn 9 [⟨#[]⟩, ⟨#[]⟩, ⟨#[109, 49]⟩, ⟨#[109, 50]⟩, ⟨#[122, 122]⟩] (by decide)
                    have hqg : g < wn.heap.size := T0.s.d.c.1.lt
                    have T1 := T0.al (.cells #[.string ⟨#[]⟩, .string ⟨#[]⟩, .string ⟨#[109, 49]⟩, .string ⟨#[109, 50]⟩, .string ⟨#[122, 122]⟩] 9)
                    refine hK.out _ _ trivial (fun _ => T1) ?_
                    clear hK K T0
                    try simp only [Act.put, List.setIfInBounds_toArray, List.set_cons_zero, List.set_cons_succ]
                    generalize wn.alloc (.cells #[.string ⟨#[]⟩, .string ⟨#[]⟩, .string ⟨#[109, 49]⟩, .string ⟨#[109, 50]⟩, .string ⟨#[122, 122]⟩] 9) = wm at PT T1 ⊢
                    generalize wn.heap.size = qq at PT hqg ⊢
                    have T0 := T1
                    clear T1
                    obtain ⟨wn, rfl⟩ : ∃ z, z = wm := ⟨_, rfl⟩
                    refine wpAnyX_ready [3] (AllReadyX.cons rfl (fun K hK => ?_) AllReadyX.nil)
                    go_simp
                    refine (below_st 6 _ T0.s.d.c.rebase (by decide) (by decide)).mono ?_
                    rintro e wm ⟨x3, rfl, hx3a, hx3b, hcn, hgn⟩
                    have PT := PT.cur hgn (by omega)
                    have T1 := T0.cur hcn.1 hgn
                    clear S0 T0 hcn hgn
                    go_wp2_with fail
                    refine hK.out _ _ trivial (fun _ => T1) ?_
                    clear hK K
                    have S0 := trivial
                    have T0 := T1
                    clear T1
                    try simp only [Act.put, List.setIfInBounds_toArray, List.set_cons_zero, List.set_cons_succ]
                    obtain ⟨wn, rfl⟩ : ∃ z, z = wm := ⟨_, rfl⟩
                    refine takeXS 4 78 (.int .i64 (1 + x3)) rfl rfl S0 T0 ?_ (hy := Or.inl ⟨by rfl, fun wz hz => by (go_simp; rw [IntKind.wrap_i64]; omega)⟩)
                    try simp only [Act.put, List.setIfInBounds_toArray, List.set_cons_zero, List.set_cons_succ]
                    refine wpAnyX_ready [6] (AllReadyX.cons rfl (fun K hK => ?_) AllReadyX.nil)
                    go_simp
                    refine (below_st 3 _ T0.s.d.c.rebase (by decide) (by decide)).mono ?_
                    rintro e wm ⟨x6, rfl, hx6a, hx6b, hcn, hgn⟩
                    have PT := PT.cur hgn (by omega)
                    have T1 := T0.cur hcn.1 hgn
                    clear S0 T0 hcn hgn
                    go_wp2_with fail
                    refine hK.out _ _ trivial (fun _ => T1) ?_
                    clear hK K
                    have S0 := trivial
                    have T0 := T1
                    clear T1
                    try simp only [Act.put, List.setIfInBounds_toArray, List.set_cons_zero, List.set_cons_succ]
                    obtain ⟨wn, rfl⟩ : ∃ z, z = wm := ⟨_, rfl⟩
                    refine takeXS 7 81 _ rfl rfl S0 T0 ?_
                    try simp only [Act.put, List.setIfInBounds_toArray, List.set_cons_zero, List.set_cons_succ]
                    refine wpAnyX_ready [9] (AllReadyX.cons rfl (fun K hK => ?_) AllReadyX.nil)
                    go_simp
                    refine (below_st 4 _ T0.s.d.c.rebase (by decide) (by decide)).mono ?_
                    rintro e wm ⟨x9, rfl, hx9a, hx9b, hcn, hgn⟩
                    have PT := PT.cur hgn (by omega)
                    have T1 := T0.cur hcn.1 hgn
                    clear S0 T0 hcn hgn
                    go_wp2_with fail
                    refine hK.out _ _ trivial (fun _ => T1) ?_
                    clear hK K
                    have S0 := trivial
                    have T0 := T1
                    clear T1
                    try simp only [Act.put, List.setIfInBounds_toArray, List.set_cons_zero, List.set_cons_succ]
                    obtain ⟨wn, rfl⟩ : ∃ z, z = wm := ⟨_, rfl⟩
                    refine takeXS 10 84 (.int .i64 (1 + x9)) rfl rfl S0 T0 ?_ (hy := Or.inl ⟨by rfl, fun wz hz => by (go_simp; rw [IntKind.wrap_i64]; omega)⟩)
                    try simp only [Act.put, List.setIfInBounds_toArray, List.set_cons_zero, List.set_cons_succ]
                    refine wpAnyX_ready [13] (AllReadyX.cons rfl (fun K hK => ?_) AllReadyX.nil)
                    go_simp
                    refine (pickS_st qq 5 5 _ T0.s.d.c.rebase PT (by omega) (by decide) (by decide)).mono ?_
                    rintro e wm ⟨sq, rfl, hsq, hcm⟩
                    obtain ⟨ln, rfl⟩ : ∃ l, sq = bs l := ⟨_, (bs_bk _).symm⟩
                    rw [bs_size] at hsq
                    have T1 := T0.cur hcm.1 hcm.2.2.1
                    clear S0 T0 hcm PT
                    go_wp2_with fail
                    refine hK.out _ _ trivial (fun _ => T1) ?_
                    clear hK K
                    have S0 := trivial
                    have T0 := T1
                    clear T1
                    try simp only [Act.put, List.setIfInBounds_toArray, List.set_cons_zero, List.set_cons_succ]
                    obtain ⟨wn, rfl⟩ : ∃ z, z = wm := ⟨_, rfl⟩
                    refine wpAnyX_ready [15] (AllReadyX.cons rfl (fun K hK => ?_) AllReadyX.nil)
                    go_simp
                    refine (below_st 4 _ T0.s.d.c.rebase (by decide) (by decide)).mono ?_
                    rintro e wm ⟨x15, rfl, hx15a, hx15b, hcn, hgn⟩
                    have T1 := T0.cur hcn.1 hgn
                    clear S0 T0 hcn hgn
                    go_wp2_with fail
                    refine hK.out _ _ trivial (fun _ => T1) ?_
                    clear hK K
                    have S0 := trivial
                    have T0 := T1
                    clear T1
                    try simp only [Act.put, List.setIfInBounds_toArray, List.set_cons_zero, List.set_cons_succ]
                    obtain ⟨wn, rfl⟩ : ∃ z, z = wm := ⟨_, rfl⟩
                    refine takeXS 16 90 (.agg #[.int .i64 (1 + x3), .int .i64 x6, .int .i64 (1 + x9), .string (bs ln), .int .i64 x15]) rfl rfl S0 T0 ?_ (hy := Or.inl ⟨by rfl, fun wz hz => by go_simp⟩)
                    try simp only [Act.put, List.setIfInBounds_toArray, List.set_cons_zero, List.set_cons_succ]
                    have hbn := below_al (Below.refl _ wn) (.cells #[.int .i64 (1 + x3), .int .i64 x6, .int .i64 (1 + x9), .string (bs ln), .int .i64 x15] 96)
                    obtain ⟨g4, cp, w4, hrun, HA⟩ := runA (B := E) T0.r T0.o T0.c (by omega) T0.s.e ⟨1 + x3, x6, 1 + x9, ln, x15⟩
                    simp only at hrun HA
                    have D3 := (T0.below hbn).app ⟨1 + x3, x6, 1 + x9, ln, x15⟩ (unhide HA)
                    have D4 := hide (D3.set 2 (.slice (some ⟨g4, 0, none⟩) (j + 1) cp))
                    have X3 := D3.x
                    refine wpAnyX_ready [17] (AllReadyX.cons rfl (fun K hK => readyV 91 (by rfl) rfl (run_v (run_bs5 wn 39 96 _ (.agg #[.int .i64 0, .int .i64 0, .int .i64 0, .string ByteArray.empty, .int .i64 0]) (.int .i64 (1 + x3)) (.int .i64 x6) (.int .i64 (1 + x9)) (.string (bs ln)) (.int .i64 x15) Tryz.underlying39 (by kernel_rfl) (by simp only [List.map_toArray, List.map_cons, List.map_nil]; rfl))) ?_) AllReadyX.nil)
                    refine hK.out _ _ trivial (fun _ => T0.below hbn) ?_
                    clear hK K
                    try simp only [Act.put, List.setIfInBounds_toArray, List.set_cons_zero, List.set_cons_succ]
                    refine wpAnyX_ready [18] (AllReadyX.cons rfl (fun K hK => readyV 92 (by rfl) rfl (exec_append rfl rfl rfl hrun) ?_) AllReadyX.nil)
                    refine hK.out _ _ trivial (xno (by kernel_rfl)) ?_
                    clear hK K hrun T0 D3 HA hbn
                    try simp only [Act.put, List.setIfInBounds_toArray, List.set_cons_zero, List.set_cons_succ]
                    refine wpAnyX_on _ _ _ _ (by kernel_rfl) ?_
                    refine takeW 19 93 _ rfl rfl trivial ?_
                    try simp only [Act.put, List.setIfInBounds_toArray, List.set_cons_zero, List.set_cons_succ]
                    refine wpAnyH_ready (rs := [20]) (by kernel_rfl) (by simp) (AllReadyH.cons rfl (fun K hK => readyU (by rfl) rfl (run_u (put_cell 39 (.slice (some ⟨g4, 0, none⟩) (j + 1) cp) X3 (by show 2 < 3; decide) (by kernel_rfl) rfl)) ?_) AllReadyH.nil)
                    refine hK.out _ _ trivial (fun _ => ?_)
                    clear hK K X3
                    try simp only [Act.put, List.setIfInBounds_toArray, List.set_cons_zero, List.set_cons_succ]
                    refine wpAnyH_done (by kernel_rfl) ?_ _
                    generalize w4.setCell ⟨ba, 2, none⟩ (.slice (some ⟨g4, 0, none⟩) (j + 1) cp) = w5 at D4 ⊢
                    go_wp2
                    go_roundw
                    case rel => exact ⟨j + 1, ak ++ [⟨1 + x3, x6, 1 + x9, ln, x15⟩], some ⟨g4, 0, none⟩, cp, by omega, by go_num, hide (unhide D4).x, hide (unhide D4).s, hide ⟨(unhide D4).r, (unhide D4).o, (unhide D4).c⟩, hide (fun z hz => by rcases List.mem_append.1 hz with hz | hz; exact unhide HN z hz; simp at hz; subst hz; exact hsq)⟩
                    case measure => simp [intOf]; omega
                · obtain rfl : nj = j := by omega
                  have j2 : ¬ (nj : Int) < nj := by omega
                  have HAL := hide (show y.al ≤ 1000 by have := (unhide HD).a.av.1; have h1 := (unhide HD).a.heads.1; have h2 := (unhide HS).al; omega)
                  have HJL := hide (unhide HA).1.1
                  clear hlt
                  go_upto_region 20 with fail
                  have X0 := (unhide HD).d.x
                  have hbn := below_al (Below.refl _ wr) (.cells #[.int .i64 s.next, .string (bs lz), .slice ko nj kc] 41)
                  obtain ⟨g4, cp, w4, hrun, HR⟩ := runP (B := w.heap.size) (unhide HD).a.av ((unhide HD).a.rm.2.1.mono (Nat.le_refl _) (unhide HD).e) (unhide HD).a.cap.a (unhide HAL) (unhide HD).d.c.2.2.1.size ⟨s.next, lz, ko, nj, kc⟩
                  simp only at hrun HR
                  have H3 := SHas.addA ((unhide HD).a.below hbn) (Nat.le_trans (unhide HD).e hbn.size) hEl s.next (s.next + 1) lz ko ak (unhide HJL) (unhide HA).2.2 ((unhide HA).1.below hbn) ((unhide HA).2.1.grow hbn (Nat.le_refl _)) (unhide HR)
                  have D3 := ((unhide HD).d.below hbn).mks (unhide HR).mks (fun k ⟨N, hc, hB⟩ => ⟨hB, _, N, hc, by decide, by decide⟩)
                  have D4 := hide (D3.set 5 (.slice (some ⟨g4, 0, none⟩) (y.al + 1) cp))
                  have H4 := hide (D3.setH 5 (.slice (some ⟨g4, 0, none⟩) (y.al + 1) cp) H3)
                  have D5 := hide ((unhide D4).set 3 (.int .i64 (s.next + 1)))
                  have H5 := hide ((unhide D4).setH 3 (.int .i64 (s.next + 1)) (unhide H4))
                  have hnx : -1000 ≤ s.next ∧ s.next ≤ 100000 := by have := (unhide HS).nx; omega
                  have S5 := hide ((unhide HS).addA ⟨s.next, lz, ak⟩ (s.next + 1) (by omega) hlz (by have := unhide HJL; show ak.length ≤ 3; omega) (unhide HN) rfl rfl)
                  refine wp_region_lit ?_
                  refine wpList_same (v := .pointer (some ⟨b, 5, none⟩)) (d := some 94) rfl rfl (by go_simp) ?_
                  try simp only [Act.put, List.setIfInBounds_toArray, List.set_cons_zero, List.set_cons_succ]
                  refine wpList_same (v := .slice y.aa y.al y.ac) (d := some 95) rfl rfl (by (have c5 := X0.at 5; simp at c5; go_simp)) ?_
                  try simp only [Act.put, List.setIfInBounds_toArray, List.set_cons_zero, List.set_cons_succ]
                  refine wpList_same (v := .agg #[.int .i64 s.next, .string (bs lz), .slice ko nj kc]) (d := some 96) rfl rfl (run_v (app_load (unhide HB) rfl)) ?_
                  try simp only [Act.put, List.setIfInBounds_toArray, List.set_cons_zero, List.set_cons_succ]
                  refine wpList_val (v := .slice (some ⟨wr.heap.size, 0, none⟩) 1 1) (d := some 97) rfl rfl (run_v (run_bs3 wr 25 41 _ (.agg #[.int .i64 0, .string ByteArray.empty, .slice none 0 0]) (.int .i64 s.next) (.string (bs lz)) (.slice ko nj kc) Tryz.underlying25 (by kernel_rfl) (by simp only [List.map_toArray, List.map_cons, List.map_nil]; rfl))) ?_
                  try simp only [Act.put, List.setIfInBounds_toArray, List.set_cons_zero, List.set_cons_succ]
                  refine wpList_val (v := .slice (some ⟨g4, 0, none⟩) (y.al + 1) cp) (d := some 98) rfl rfl (exec_append rfl rfl rfl hrun) ?_
                  try simp only [Act.put, List.setIfInBounds_toArray, List.set_cons_zero, List.set_cons_succ]
                  refine wpList_same (v := .pointer (some ⟨b, 5, none⟩)) (d := some 99) rfl rfl (by go_simp) ?_
                  try simp only [Act.put, List.setIfInBounds_toArray, List.set_cons_zero, List.set_cons_succ]
                  refine wpList_none (d := none) rfl rfl (run_u (put_cell 25 (.slice (some ⟨g4, 0, none⟩) (y.al + 1) cp) D3.x (by show 5 < 8; decide) (by kernel_rfl) rfl)) ?_
                  try simp only [Act.put]
                  clear hrun H3 D3 HR hbn X0
                  go_upto_region 21 with fail
                  generalize w4.setCell ⟨b, 5, none⟩ (.slice (some ⟨g4, 0, none⟩) (y.al + 1) cp) = w5 at D4 H4 D5 H5 ⊢
                  refine wp_region_lit ?_
                  refine wpList_same (v := .pointer (some ⟨b, 3, none⟩)) (d := some 100) rfl rfl (by go_simp) ?_
                  try simp only [Act.put, List.setIfInBounds_toArray, List.set_cons_zero, List.set_cons_succ]
                  refine wpList_same (v := .int .i64 s.next) (d := some 101) rfl rfl (by (have c3 := (unhide D4).x.at 3; simp at c3; go_simp)) ?_
                  try simp only [Act.put, List.setIfInBounds_toArray, List.set_cons_zero, List.set_cons_succ]
                  refine wpList_same (v := .int .i64 (s.next + 1)) (d := some 102) rfl rfl (by (go_simp; rw [IntKind.wrap_i64]; omega)) ?_
                  try simp only [Act.put, List.setIfInBounds_toArray, List.set_cons_zero, List.set_cons_succ]
                  refine wpList_same (v := .pointer (some ⟨b, 3, none⟩)) (d := some 103) rfl rfl (by go_simp) ?_
                  try simp only [Act.put, List.setIfInBounds_toArray, List.set_cons_zero, List.set_cons_succ]
                  refine wpList_none (d := none) rfl rfl (run_u (put_cell 3 (.int .i64 (s.next + 1)) (unhide D4).x (by show 3 < 8; decide) (by kernel_rfl) rfl)) ?_
                  try simp only [Act.put]
                  generalize w5.setCell ⟨b, 3, none⟩ (.int .i64 (s.next + 1)) = w6 at D5 H5 ⊢
                  clear D4 H4 HB HD HA HN
                  go_wp2
                  go_roundw
                  case rel => exact ⟨k + 1, ⟨y.qa, y.ql, y.qc, some ⟨g4, 0, none⟩, y.al + 1, cp, y.ma, y.ml, y.mc, y.ca, y.cl, y.cc⟩, ⟨s.qs, s.clock, s.epoch, s.next + 1, s.serial, s.apps ++ [⟨s.next, lz, ak⟩], s.ms, s.cs⟩, hs ++ [⟨s.next, lz, ko, nj, kc⟩], by omega, by go_num, D5, H5, S5⟩
                  case measure => simp [intOf]; omega
        · have k2 : ¬ (k : Int) < nk := by omega
          obtain rfl : nk = k := by omega
          clear hlt
          go_wp2_with fail
          refine (below_st 7 _ (unhide HD).c (by decide) (by decide)).mono ?_
          rintro e w8 ⟨nc, rfl, hn0, hn1, hc8, hg8⟩
          have D8 := hide ((unhide HD).cur hc8 hg8)
          have H8 := hide ((unhide HD).off hc8 hg8 (unhide HH))
          have S8 := hide ((unhide HS).mono hnk (Nat.le_refl 3) (Nat.le_refl 0))
          obtain ⟨nc, rfl⟩ := Int.eq_ofNat_of_zero_le hn0
          have hnc : nc ≤ 6 := by omega
          clear HD HH HS hc8 hg8 hn0 hn1 k2 hk
          go_wp2
          go_loopw [14] (fun i wr => ∃ (k : Nat) (y : Sls) (s : St) (hs : List AV), k ≤ nc ∧ i = .int .i64 k ∧ Hid (DSt w B g ao len cap b q (svc y s) wr) ∧ Hid (SHas w.heap.size wr y s hs) ∧ Hid (SmS s 4 3 k)) (fun i _ => nc - (intOf i).toNat)
          case atStart => exact ⟨0, y, s, hs, Nat.zero_le _, rfl, D8, H8, S8⟩
          case round =>
            clear D8 H8 S8
            obtain ⟨k, y, s, hs, hk, rfl, HD, HH, HS⟩ := hrel
            by_cases hgo : k < nc ∧ 0 < nm ∧ 0 < nk
            · obtain ⟨hlt, hm0, hk0⟩ := hgo
              have k2 : (k : Int) < nc := by omega
              have m2 : (0 : Int) < nm := by omega
              have q2 : (0 : Int) < nk := by omega
              obtain ⟨E, hE⟩ : ∃ E, wr.heap.size = E := ⟨_, rfl⟩
              have DS0 := hide (show DS w B g ao len cap b q (svc y s) E y s hs wr by rw [← hE]; exact DS.new (unhide HD) (unhide HH))
              have hEl : w.heap.size ≤ E := (unhide DS0).l
              clear HD HH hE
              go_upto_region 26 with fail
              go_cut [15] from 119 to 137 (fun v15 wx => ∃ (bx : Nat) (cc : Con), v15 = .pointer (some ⟨bx, 0, none⟩) ∧ Hid (Blk wx bx #[.int .i64 cc.id, .int .i64 cc.app, .string (bs cc.node), .int .i64 cc.mem, .int .i64 cc.cpu] 72) ∧ E ≤ bx ∧ cc.node.length ≤ 12 ∧ (0 ≤ cc.app ∧ cc.app ≤ 100000) ∧ Hid (DS w B g ao len cap b q (svc y s) E y s hs wx))
              case first =>
                refine wp_region_held_drew (S := fun wx => DS w B g ao len cap b q (svc y s) E y s hs wx) (by kernel_rfl) (unhide DS0).drew (fun S0 => ?_)
                generalize wr.drew = wn at S0 ⊢
                refine takeW 0 119 _ rfl rfl S0 ?_
                try simp only [Act.put, List.setIfInBounds_toArray, List.set_cons_zero, List.set_cons_succ]
                refine takeW 1 120 (.int .i64 s.serial) rfl rfl S0 ?_ (hy := Or.inl ⟨by rfl, fun wz hz => by (have c4 := (DS.d hz).x.at 4; simp at c4; go_simp)⟩)
                try simp only [Act.put, List.setIfInBounds_toArray, List.set_cons_zero, List.set_cons_succ]
                refine takeW 2 121 _ rfl rfl S0 ?_
                try simp only [Act.put, List.setIfInBounds_toArray, List.set_cons_zero, List.set_cons_succ]
                refine takeW 3 122 _ rfl rfl S0 ?_
                try simp only [Act.put, List.setIfInBounds_toArray, List.set_cons_zero, List.set_cons_succ]
                refine takeW 6 125 _ rfl rfl S0 ?_
                try simp only [Act.put, List.setIfInBounds_toArray, List.set_cons_zero, List.set_cons_succ]
                refine takeW 7 126 _ rfl rfl S0 ?_
                try simp only [Act.put, List.setIfInBounds_toArray, List.set_cons_zero, List.set_cons_succ]
                refine takeW 8 127 _ rfl rfl S0 ?_
                try simp only [Act.put, List.setIfInBounds_toArray, List.set_cons_zero, List.set_cons_succ]
                refine takeW 12 131 _ rfl rfl S0 ?_
                try simp only [Act.put, List.setIfInBounds_toArray, List.set_cons_zero, List.set_cons_succ]
                refine takeW 15 134 _ rfl rfl S0 ?_
                try simp only [Act.put, List.setIfInBounds_toArray, List.set_cons_zero, List.set_cons_succ]
                refine wpAnyH_ready (rs := [4, 19]) (by kernel_rfl) (by simp) (AllReadyH.cons rfl (fun K hK => ?_) (AllReadyH.cons rfl (fun K hK => readyV 15 (by rfl) rfl (run_v (run_allocv _ 72 #[.int .i64 0, .int .i64 0, .string ⟨#[]⟩, .int .i64 0, .int .i64 0] (by kernel_rfl))) ?_) AllReadyH.nil))
                · go_simp
                  refine (below_st (nk : Int) _ S0.d.c.rebase (by omega) (by omega)).mono ?_
                  rintro e wm ⟨x4, rfl, hx4a, hx4b, hcm, hgm⟩
                  have S1 := S0.cur hcm.1 hgm
                  clear S0 hcm hgm
                  go_wp2_with fail
                  refine hK.out _ _ S1 (fun S0 => ?_)
                  clear hK K S1
                  try simp only [Act.put, List.setIfInBounds_toArray, List.set_cons_zero, List.set_cons_succ]
                  obtain ⟨wn, rfl⟩ : ∃ z, z = wm := ⟨_, rfl⟩
                  refine takeW 5 124 (.int .i64 (1001 + x4)) rfl rfl S0 ?_ (hy := Or.inl ⟨by rfl, fun wz hz => by (go_simp; rw [IntKind.wrap_i64]; omega)⟩)
                  try simp only [Act.put, List.setIfInBounds_toArray, List.set_cons_zero, List.set_cons_succ]
                  refine wpAnyH_ready (rs := [9, 19]) (by kernel_rfl) (by simp) (AllReadyH.cons rfl (fun K hK => ?_) (AllReadyH.cons rfl (fun K hK => readyV 15 (by rfl) rfl (run_v (run_allocv _ 72 #[.int .i64 0, .int .i64 0, .string ⟨#[]⟩, .int .i64 0, .int .i64 0] (by kernel_rfl))) ?_) AllReadyH.nil))
                  · go_simp
                    refine (below_st (nm : Int) _ S0.d.c.rebase (by omega) (by omega)).mono ?_
                    rintro e wm ⟨x9, rfl, hx9a, hx9b, hcm, hgm⟩
                    have S1 := S0.cur hcm.1 hgm
                    clear S0 hcm hgm
                    go_wp2_with fail
                    refine hK.out _ _ S1 (fun S0 => ?_)
                    clear hK K S1
                    try simp only [Act.put, List.setIfInBounds_toArray, List.set_cons_zero, List.set_cons_succ]
                    obtain ⟨wn, rfl⟩ : ∃ z, z = wm := ⟨_, rfl⟩
                    obtain ⟨m9, rfl⟩ := Int.eq_ofNat_of_zero_le hx9a
                    obtain ⟨na, hna, hat⟩ := names_at m9 (by omega)
                    have i0 : (0 : Int) ≤ m9 := by omega
                    have i1 : (m9 : Int) < 3 := by omega
                    refine takeW 10 129 _ rfl rfl S0 ?_
                    try simp only [Act.put, List.setIfInBounds_toArray, List.set_cons_zero, List.set_cons_succ]
                    refine takeW 11 130 (.string (bs na)) rfl rfl S0 ?_ (hy := Or.inl ⟨by rfl, fun wz hz => by (have ck := (DS.d hz).n.at m9; rw [hat] at ck; go_simp)⟩)
                    try simp only [Act.put, List.setIfInBounds_toArray, List.set_cons_zero, List.set_cons_succ]
                    refine wpAnyH_ready (rs := [13, 19]) (by kernel_rfl) (by simp) (AllReadyH.cons rfl (fun K hK => ?_) (AllReadyH.cons rfl (fun K hK => readyV 15 (by rfl) rfl (run_v (run_allocv _ 72 #[.int .i64 0, .int .i64 0, .string ⟨#[]⟩, .int .i64 0, .int .i64 0] (by kernel_rfl))) ?_) AllReadyH.nil))
                    · go_simp
                      refine (below_st 6 _ S0.d.c.rebase (by omega) (by omega)).mono ?_
                      rintro e wm ⟨x13, rfl, hx13a, hx13b, hcm, hgm⟩
                      have S1 := S0.cur hcm.1 hgm
                      clear S0 hcm hgm
                      go_wp2_with fail
                      refine hK.out _ _ S1 (fun S0 => ?_)
                      clear hK K S1
                      try simp only [Act.put, List.setIfInBounds_toArray, List.set_cons_zero, List.set_cons_succ]
                      obtain ⟨wn, rfl⟩ : ∃ z, z = wm := ⟨_, rfl⟩
                      refine takeW 14 133 (.int .i64 (1 + x13)) rfl rfl S0 ?_ (hy := Or.inl ⟨by rfl, fun wz hz => by (go_simp; rw [IntKind.wrap_i64]; omega)⟩)
                      try simp only [Act.put, List.setIfInBounds_toArray, List.set_cons_zero, List.set_cons_succ]
                      refine wpAnyH_ready (rs := [16, 19]) (by kernel_rfl) (by simp) (AllReadyH.cons rfl (fun K hK => ?_) (AllReadyH.cons rfl (fun K hK => readyV 15 (by rfl) rfl (run_v (run_allocv _ 72 #[.int .i64 0, .int .i64 0, .string ⟨#[]⟩, .int .i64 0, .int .i64 0] (by kernel_rfl))) ?_) AllReadyH.nil))
                      · go_simp
                        refine (below_st 3 _ S0.d.c.rebase (by omega) (by omega)).mono ?_
                        rintro e wm ⟨x16, rfl, hx16a, hx16b, hcm, hgm⟩
                        have S1 := S0.cur hcm.1 hgm
                        clear S0 hcm hgm
                        go_wp2_with fail
                        refine hK.out _ _ S1 (fun S0 => ?_)
                        clear hK K S1
                        try simp only [Act.put, List.setIfInBounds_toArray, List.set_cons_zero, List.set_cons_succ]
                        obtain ⟨wn, rfl⟩ : ∃ z, z = wm := ⟨_, rfl⟩
                        refine takeW 17 136 _ rfl rfl S0 ?_
                        try simp only [Act.put, List.setIfInBounds_toArray, List.set_cons_zero, List.set_cons_succ]
                        refine takeW 18 137 (.agg #[.int .i64 s.serial, .int .i64 (1001 + x4), .string (bs na), .int .i64 (1 + x13), .int .i64 x16]) rfl rfl S0 ?_ (hy := Or.inl ⟨by rfl, fun wz hz => by go_simp⟩)
                        try simp only [Act.put, List.setIfInBounds_toArray, List.set_cons_zero, List.set_cons_succ]
                        refine wpAnyH_ready (rs := [19]) (by kernel_rfl) (by simp) (AllReadyH.cons rfl (fun K hK => readyV 15 (by rfl) rfl (run_v (run_allocv _ 72 #[.int .i64 0, .int .i64 0, .string ⟨#[]⟩, .int .i64 0, .int .i64 0] (by kernel_rfl))) ?_) AllReadyH.nil)
                        have BA := blk_new wn #[.int .i64 0, .int .i64 0, .string ⟨#[]⟩, .int .i64 0, .int .i64 0] 72
                        have hba : E ≤ wn.heap.size := S0.e
                        refine hK.out _ _ (S0.al _) (fun S1 => ?_)
                        clear hK K S0
                        try simp only [Act.put, List.setIfInBounds_toArray, List.set_cons_zero, List.set_cons_succ]
                        generalize wn.alloc (.cells #[.int .i64 0, .int .i64 0, .string ⟨#[]⟩, .int .i64 0, .int .i64 0] 72) = wm at BA S1 ⊢
                        generalize wn.heap.size = ba at BA hba ⊢
                        have S0 := S1
                        clear S1
                        obtain ⟨wn, rfl⟩ : ∃ z, z = wm := ⟨_, rfl⟩
                        refine wpAnyH_ready (rs := [20]) (by kernel_rfl) (by simp) (AllReadyH.cons rfl (fun K hK => readyU (by rfl) rfl (run_u (blk_store 72 (arr := #[.int .i64 s.serial, .int .i64 (1001 + x4), .string (bs na), .int .i64 (1 + x13), .int .i64 x16]) BA (by kernel_rfl) rfl (by kernel_rfl))) ?_) AllReadyH.nil)
                        have B2 := blk_rw BA #[.int .i64 s.serial, .int .i64 (1001 + x4), .string (bs na), .int .i64 (1 + x13), .int .i64 x16]
                        refine hK.out _ _ (S0.out (mks_rw BA #[.int .i64 s.serial, .int .i64 (1001 + x4), .string (bs na), .int .i64 (1 + x13), .int .i64 x16] rfl) (fun k e => by subst e; exact ⟨hba, _, _, ⟨_, BA, rfl⟩, by decide, by decide⟩)) (fun S1 => ?_)
                        clear hK K S0 BA
                        try simp only [Act.put, List.setIfInBounds_toArray, List.set_cons_zero, List.set_cons_succ]
                        refine wpAnyH_done (by kernel_rfl) ?_ _
                        go_wp2_with fail
                        go_meet
                        exact ⟨ba, ⟨s.serial, 1001 + x4, na, 1 + x13, x16⟩, rfl, hide B2, hba, by show na.length ≤ 12; omega, by show 0 ≤ 1001 + x4 ∧ 1001 + x4 ≤ 100000; omega, hide S1⟩
                      · have BA := blk_new wn #[.int .i64 0, .int .i64 0, .string ⟨#[]⟩, .int .i64 0, .int .i64 0] 72
                        have hba : E ≤ wn.heap.size := S0.e
                        refine hK.out _ _ (S0.al _) (fun S1 => ?_)
                        clear hK K S0
                        try simp only [Act.put, List.setIfInBounds_toArray, List.set_cons_zero, List.set_cons_succ]
                        generalize wn.alloc (.cells #[.int .i64 0, .int .i64 0, .string ⟨#[]⟩, .int .i64 0, .int .i64 0] 72) = wm at BA S1 ⊢
                        generalize wn.heap.size = ba at BA hba ⊢
                        have S0 := S1
                        clear S1
                        obtain ⟨wn, rfl⟩ : ∃ z, z = wm := ⟨_, rfl⟩
                        refine wpAnyH_ready (rs := [16]) (by kernel_rfl) (by simp) (AllReadyH.cons rfl (fun K hK => ?_) AllReadyH.nil)
                        go_simp
                        refine (below_st 3 _ S0.d.c.rebase (by omega) (by omega)).mono ?_
                        rintro e wm ⟨x16, rfl, hx16a, hx16b, hcm, hgm⟩
                        have BA := (cur_mks S0.d.c.1 hcm.1 hgm).blk BA (by omega)
                        have S1 := S0.cur hcm.1 hgm
                        clear S0 hcm hgm
                        go_wp2_with fail
                        refine hK.out _ _ S1 (fun S0 => ?_)
                        clear hK K S1
                        try simp only [Act.put, List.setIfInBounds_toArray, List.set_cons_zero, List.set_cons_succ]
                        obtain ⟨wn, rfl⟩ : ∃ z, z = wm := ⟨_, rfl⟩
                        refine takeW 17 136 _ rfl rfl S0 ?_
                        try simp only [Act.put, List.setIfInBounds_toArray, List.set_cons_zero, List.set_cons_succ]
                        refine takeW 18 137 (.agg #[.int .i64 s.serial, .int .i64 (1001 + x4), .string (bs na), .int .i64 (1 + x13), .int .i64 x16]) rfl rfl S0 ?_ (hy := Or.inl ⟨by rfl, fun wz hz => by go_simp⟩)
                        try simp only [Act.put, List.setIfInBounds_toArray, List.set_cons_zero, List.set_cons_succ]
                        refine wpAnyH_ready (rs := [20]) (by kernel_rfl) (by simp) (AllReadyH.cons rfl (fun K hK => readyU (by rfl) rfl (run_u (blk_store 72 (arr := #[.int .i64 s.serial, .int .i64 (1001 + x4), .string (bs na), .int .i64 (1 + x13), .int .i64 x16]) BA (by kernel_rfl) rfl (by kernel_rfl))) ?_) AllReadyH.nil)
                        have B2 := blk_rw BA #[.int .i64 s.serial, .int .i64 (1001 + x4), .string (bs na), .int .i64 (1 + x13), .int .i64 x16]
                        refine hK.out _ _ (S0.out (mks_rw BA #[.int .i64 s.serial, .int .i64 (1001 + x4), .string (bs na), .int .i64 (1 + x13), .int .i64 x16] rfl) (fun k e => by subst e; exact ⟨hba, _, _, ⟨_, BA, rfl⟩, by decide, by decide⟩)) (fun S1 => ?_)
                        clear hK K S0 BA
                        try simp only [Act.put, List.setIfInBounds_toArray, List.set_cons_zero, List.set_cons_succ]
                        refine wpAnyH_done (by kernel_rfl) ?_ _
                        go_wp2_with fail
                        go_meet
                        exact ⟨ba, ⟨s.serial, 1001 + x4, na, 1 + x13, x16⟩, rfl, hide B2, hba, by show na.length ≤ 12; omega, by show 0 ≤ 1001 + x4 ∧ 1001 + x4 ≤ 100000; omega, hide S1⟩
                    · have BA := blk_new wn #[.int .i64 0, .int .i64 0, .string ⟨#[]⟩, .int .i64 0, .int .i64 0] 72
                      have hba : E ≤ wn.heap.size := S0.e
                      refine hK.out _ _ (S0.al _) (fun S1 => ?_)
                      clear hK K S0
                      try simp only [Act.put, List.setIfInBounds_toArray, List.set_cons_zero, List.set_cons_succ]
                      generalize wn.alloc (.cells #[.int .i64 0, .int .i64 0, .string ⟨#[]⟩, .int .i64 0, .int .i64 0] 72) = wm at BA S1 ⊢
                      generalize wn.heap.size = ba at BA hba ⊢
                      have S0 := S1
                      clear S1
                      obtain ⟨wn, rfl⟩ : ∃ z, z = wm := ⟨_, rfl⟩
                      refine wpAnyH_ready (rs := [13]) (by kernel_rfl) (by simp) (AllReadyH.cons rfl (fun K hK => ?_) AllReadyH.nil)
                      go_simp
                      refine (below_st 6 _ S0.d.c.rebase (by omega) (by omega)).mono ?_
                      rintro e wm ⟨x13, rfl, hx13a, hx13b, hcm, hgm⟩
                      have BA := (cur_mks S0.d.c.1 hcm.1 hgm).blk BA (by omega)
                      have S1 := S0.cur hcm.1 hgm
                      clear S0 hcm hgm
                      go_wp2_with fail
                      refine hK.out _ _ S1 (fun S0 => ?_)
                      clear hK K S1
                      try simp only [Act.put, List.setIfInBounds_toArray, List.set_cons_zero, List.set_cons_succ]
                      obtain ⟨wn, rfl⟩ : ∃ z, z = wm := ⟨_, rfl⟩
                      refine takeW 14 133 (.int .i64 (1 + x13)) rfl rfl S0 ?_ (hy := Or.inl ⟨by rfl, fun wz hz => by (go_simp; rw [IntKind.wrap_i64]; omega)⟩)
                      try simp only [Act.put, List.setIfInBounds_toArray, List.set_cons_zero, List.set_cons_succ]
                      refine wpAnyH_ready (rs := [16]) (by kernel_rfl) (by simp) (AllReadyH.cons rfl (fun K hK => ?_) AllReadyH.nil)
                      go_simp
                      refine (below_st 3 _ S0.d.c.rebase (by omega) (by omega)).mono ?_
                      rintro e wm ⟨x16, rfl, hx16a, hx16b, hcm, hgm⟩
                      have BA := (cur_mks S0.d.c.1 hcm.1 hgm).blk BA (by omega)
                      have S1 := S0.cur hcm.1 hgm
                      clear S0 hcm hgm
                      go_wp2_with fail
                      refine hK.out _ _ S1 (fun S0 => ?_)
                      clear hK K S1
                      try simp only [Act.put, List.setIfInBounds_toArray, List.set_cons_zero, List.set_cons_succ]
                      obtain ⟨wn, rfl⟩ : ∃ z, z = wm := ⟨_, rfl⟩
                      refine takeW 17 136 _ rfl rfl S0 ?_
                      try simp only [Act.put, List.setIfInBounds_toArray, List.set_cons_zero, List.set_cons_succ]
                      refine takeW 18 137 (.agg #[.int .i64 s.serial, .int .i64 (1001 + x4), .string (bs na), .int .i64 (1 + x13), .int .i64 x16]) rfl rfl S0 ?_ (hy := Or.inl ⟨by rfl, fun wz hz => by go_simp⟩)
                      try simp only [Act.put, List.setIfInBounds_toArray, List.set_cons_zero, List.set_cons_succ]
                      refine wpAnyH_ready (rs := [20]) (by kernel_rfl) (by simp) (AllReadyH.cons rfl (fun K hK => readyU (by rfl) rfl (run_u (blk_store 72 (arr := #[.int .i64 s.serial, .int .i64 (1001 + x4), .string (bs na), .int .i64 (1 + x13), .int .i64 x16]) BA (by kernel_rfl) rfl (by kernel_rfl))) ?_) AllReadyH.nil)
                      have B2 := blk_rw BA #[.int .i64 s.serial, .int .i64 (1001 + x4), .string (bs na), .int .i64 (1 + x13), .int .i64 x16]
                      refine hK.out _ _ (S0.out (mks_rw BA #[.int .i64 s.serial, .int .i64 (1001 + x4), .string (bs na), .int .i64 (1 + x13), .int .i64 x16] rfl) (fun k e => by subst e; exact ⟨hba, _, _, ⟨_, BA, rfl⟩, by decide, by decide⟩)) (fun S1 => ?_)
                      clear hK K S0 BA
                      try simp only [Act.put, List.setIfInBounds_toArray, List.set_cons_zero, List.set_cons_succ]
                      refine wpAnyH_done (by kernel_rfl) ?_ _
                      go_wp2_with fail
                      go_meet
                      exact ⟨ba, ⟨s.serial, 1001 + x4, na, 1 + x13, x16⟩, rfl, hide B2, hba, by show na.length ≤ 12; omega, by show 0 ≤ 1001 + x4 ∧ 1001 + x4 ≤ 100000; omega, hide S1⟩
                  · have BA := blk_new wn #[.int .i64 0, .int .i64 0, .string ⟨#[]⟩, .int .i64 0, .int .i64 0] 72
                    have hba : E ≤ wn.heap.size := S0.e
                    refine hK.out _ _ (S0.al _) (fun S1 => ?_)
                    clear hK K S0
                    try simp only [Act.put, List.setIfInBounds_toArray, List.set_cons_zero, List.set_cons_succ]
                    generalize wn.alloc (.cells #[.int .i64 0, .int .i64 0, .string ⟨#[]⟩, .int .i64 0, .int .i64 0] 72) = wm at BA S1 ⊢
                    generalize wn.heap.size = ba at BA hba ⊢
                    have S0 := S1
                    clear S1
                    obtain ⟨wn, rfl⟩ : ∃ z, z = wm := ⟨_, rfl⟩
                    refine wpAnyH_ready (rs := [9]) (by kernel_rfl) (by simp) (AllReadyH.cons rfl (fun K hK => ?_) AllReadyH.nil)
                    go_simp
                    refine (below_st (nm : Int) _ S0.d.c.rebase (by omega) (by omega)).mono ?_
                    rintro e wm ⟨x9, rfl, hx9a, hx9b, hcm, hgm⟩
                    have BA := (cur_mks S0.d.c.1 hcm.1 hgm).blk BA (by omega)
                    have S1 := S0.cur hcm.1 hgm
                    clear S0 hcm hgm
                    go_wp2_with fail
                    refine hK.out _ _ S1 (fun S0 => ?_)
                    clear hK K S1
                    try simp only [Act.put, List.setIfInBounds_toArray, List.set_cons_zero, List.set_cons_succ]
                    obtain ⟨wn, rfl⟩ : ∃ z, z = wm := ⟨_, rfl⟩
                    obtain ⟨m9, rfl⟩ := Int.eq_ofNat_of_zero_le hx9a
                    obtain ⟨na, hna, hat⟩ := names_at m9 (by omega)
                    have i0 : (0 : Int) ≤ m9 := by omega
                    have i1 : (m9 : Int) < 3 := by omega
                    refine takeW 10 129 _ rfl rfl S0 ?_
                    try simp only [Act.put, List.setIfInBounds_toArray, List.set_cons_zero, List.set_cons_succ]
                    refine takeW 11 130 (.string (bs na)) rfl rfl S0 ?_ (hy := Or.inl ⟨by rfl, fun wz hz => by (have ck := (DS.d hz).n.at m9; rw [hat] at ck; go_simp)⟩)
                    try simp only [Act.put, List.setIfInBounds_toArray, List.set_cons_zero, List.set_cons_succ]
                    refine wpAnyH_ready (rs := [13]) (by kernel_rfl) (by simp) (AllReadyH.cons rfl (fun K hK => ?_) AllReadyH.nil)
                    go_simp
                    refine (below_st 6 _ S0.d.c.rebase (by omega) (by omega)).mono ?_
                    rintro e wm ⟨x13, rfl, hx13a, hx13b, hcm, hgm⟩
                    have BA := (cur_mks S0.d.c.1 hcm.1 hgm).blk BA (by omega)
                    have S1 := S0.cur hcm.1 hgm
                    clear S0 hcm hgm
                    go_wp2_with fail
                    refine hK.out _ _ S1 (fun S0 => ?_)
                    clear hK K S1
                    try simp only [Act.put, List.setIfInBounds_toArray, List.set_cons_zero, List.set_cons_succ]
                    obtain ⟨wn, rfl⟩ : ∃ z, z = wm := ⟨_, rfl⟩
                    refine takeW 14 133 (.int .i64 (1 + x13)) rfl rfl S0 ?_ (hy := Or.inl ⟨by rfl, fun wz hz => by (go_simp; rw [IntKind.wrap_i64]; omega)⟩)
                    try simp only [Act.put, List.setIfInBounds_toArray, List.set_cons_zero, List.set_cons_succ]
                    refine wpAnyH_ready (rs := [16]) (by kernel_rfl) (by simp) (AllReadyH.cons rfl (fun K hK => ?_) AllReadyH.nil)
                    go_simp
                    refine (below_st 3 _ S0.d.c.rebase (by omega) (by omega)).mono ?_
                    rintro e wm ⟨x16, rfl, hx16a, hx16b, hcm, hgm⟩
                    have BA := (cur_mks S0.d.c.1 hcm.1 hgm).blk BA (by omega)
                    have S1 := S0.cur hcm.1 hgm
                    clear S0 hcm hgm
                    go_wp2_with fail
                    refine hK.out _ _ S1 (fun S0 => ?_)
                    clear hK K S1
                    try simp only [Act.put, List.setIfInBounds_toArray, List.set_cons_zero, List.set_cons_succ]
                    obtain ⟨wn, rfl⟩ : ∃ z, z = wm := ⟨_, rfl⟩
                    refine takeW 17 136 _ rfl rfl S0 ?_
                    try simp only [Act.put, List.setIfInBounds_toArray, List.set_cons_zero, List.set_cons_succ]
                    refine takeW 18 137 (.agg #[.int .i64 s.serial, .int .i64 (1001 + x4), .string (bs na), .int .i64 (1 + x13), .int .i64 x16]) rfl rfl S0 ?_ (hy := Or.inl ⟨by rfl, fun wz hz => by go_simp⟩)
                    try simp only [Act.put, List.setIfInBounds_toArray, List.set_cons_zero, List.set_cons_succ]
                    refine wpAnyH_ready (rs := [20]) (by kernel_rfl) (by simp) (AllReadyH.cons rfl (fun K hK => readyU (by rfl) rfl (run_u (blk_store 72 (arr := #[.int .i64 s.serial, .int .i64 (1001 + x4), .string (bs na), .int .i64 (1 + x13), .int .i64 x16]) BA (by kernel_rfl) rfl (by kernel_rfl))) ?_) AllReadyH.nil)
                    have B2 := blk_rw BA #[.int .i64 s.serial, .int .i64 (1001 + x4), .string (bs na), .int .i64 (1 + x13), .int .i64 x16]
                    refine hK.out _ _ (S0.out (mks_rw BA #[.int .i64 s.serial, .int .i64 (1001 + x4), .string (bs na), .int .i64 (1 + x13), .int .i64 x16] rfl) (fun k e => by subst e; exact ⟨hba, _, _, ⟨_, BA, rfl⟩, by decide, by decide⟩)) (fun S1 => ?_)
                    clear hK K S0 BA
                    try simp only [Act.put, List.setIfInBounds_toArray, List.set_cons_zero, List.set_cons_succ]
                    refine wpAnyH_done (by kernel_rfl) ?_ _
                    go_wp2_with fail
                    go_meet
                    exact ⟨ba, ⟨s.serial, 1001 + x4, na, 1 + x13, x16⟩, rfl, hide B2, hba, by show na.length ≤ 12; omega, by show 0 ≤ 1001 + x4 ∧ 1001 + x4 ≤ 100000; omega, hide S1⟩
                · have BA := blk_new wn #[.int .i64 0, .int .i64 0, .string ⟨#[]⟩, .int .i64 0, .int .i64 0] 72
                  have hba : E ≤ wn.heap.size := S0.e
                  refine hK.out _ _ (S0.al _) (fun S1 => ?_)
                  clear hK K S0
                  try simp only [Act.put, List.setIfInBounds_toArray, List.set_cons_zero, List.set_cons_succ]
                  generalize wn.alloc (.cells #[.int .i64 0, .int .i64 0, .string ⟨#[]⟩, .int .i64 0, .int .i64 0] 72) = wm at BA S1 ⊢
                  generalize wn.heap.size = ba at BA hba ⊢
                  have S0 := S1
                  clear S1
                  obtain ⟨wn, rfl⟩ : ∃ z, z = wm := ⟨_, rfl⟩
                  refine wpAnyH_ready (rs := [4]) (by kernel_rfl) (by simp) (AllReadyH.cons rfl (fun K hK => ?_) AllReadyH.nil)
                  go_simp
                  refine (below_st (nk : Int) _ S0.d.c.rebase (by omega) (by omega)).mono ?_
                  rintro e wm ⟨x4, rfl, hx4a, hx4b, hcm, hgm⟩
                  have BA := (cur_mks S0.d.c.1 hcm.1 hgm).blk BA (by omega)
                  have S1 := S0.cur hcm.1 hgm
                  clear S0 hcm hgm
                  go_wp2_with fail
                  refine hK.out _ _ S1 (fun S0 => ?_)
                  clear hK K S1
                  try simp only [Act.put, List.setIfInBounds_toArray, List.set_cons_zero, List.set_cons_succ]
                  obtain ⟨wn, rfl⟩ : ∃ z, z = wm := ⟨_, rfl⟩
                  refine takeW 5 124 (.int .i64 (1001 + x4)) rfl rfl S0 ?_ (hy := Or.inl ⟨by rfl, fun wz hz => by (go_simp; rw [IntKind.wrap_i64]; omega)⟩)
                  try simp only [Act.put, List.setIfInBounds_toArray, List.set_cons_zero, List.set_cons_succ]
                  refine wpAnyH_ready (rs := [9]) (by kernel_rfl) (by simp) (AllReadyH.cons rfl (fun K hK => ?_) AllReadyH.nil)
                  go_simp
                  refine (below_st (nm : Int) _ S0.d.c.rebase (by omega) (by omega)).mono ?_
                  rintro e wm ⟨x9, rfl, hx9a, hx9b, hcm, hgm⟩
                  have BA := (cur_mks S0.d.c.1 hcm.1 hgm).blk BA (by omega)
                  have S1 := S0.cur hcm.1 hgm
                  clear S0 hcm hgm
                  go_wp2_with fail
                  refine hK.out _ _ S1 (fun S0 => ?_)
                  clear hK K S1
                  try simp only [Act.put, List.setIfInBounds_toArray, List.set_cons_zero, List.set_cons_succ]
                  obtain ⟨wn, rfl⟩ : ∃ z, z = wm := ⟨_, rfl⟩
                  obtain ⟨m9, rfl⟩ := Int.eq_ofNat_of_zero_le hx9a
                  obtain ⟨na, hna, hat⟩ := names_at m9 (by omega)
                  have i0 : (0 : Int) ≤ m9 := by omega
                  have i1 : (m9 : Int) < 3 := by omega
                  refine takeW 10 129 _ rfl rfl S0 ?_
                  try simp only [Act.put, List.setIfInBounds_toArray, List.set_cons_zero, List.set_cons_succ]
                  refine takeW 11 130 (.string (bs na)) rfl rfl S0 ?_ (hy := Or.inl ⟨by rfl, fun wz hz => by (have ck := (DS.d hz).n.at m9; rw [hat] at ck; go_simp)⟩)
                  try simp only [Act.put, List.setIfInBounds_toArray, List.set_cons_zero, List.set_cons_succ]
                  refine wpAnyH_ready (rs := [13]) (by kernel_rfl) (by simp) (AllReadyH.cons rfl (fun K hK => ?_) AllReadyH.nil)
                  go_simp
                  refine (below_st 6 _ S0.d.c.rebase (by omega) (by omega)).mono ?_
                  rintro e wm ⟨x13, rfl, hx13a, hx13b, hcm, hgm⟩
                  have BA := (cur_mks S0.d.c.1 hcm.1 hgm).blk BA (by omega)
                  have S1 := S0.cur hcm.1 hgm
                  clear S0 hcm hgm
                  go_wp2_with fail
                  refine hK.out _ _ S1 (fun S0 => ?_)
                  clear hK K S1
                  try simp only [Act.put, List.setIfInBounds_toArray, List.set_cons_zero, List.set_cons_succ]
                  obtain ⟨wn, rfl⟩ : ∃ z, z = wm := ⟨_, rfl⟩
                  refine takeW 14 133 (.int .i64 (1 + x13)) rfl rfl S0 ?_ (hy := Or.inl ⟨by rfl, fun wz hz => by (go_simp; rw [IntKind.wrap_i64]; omega)⟩)
                  try simp only [Act.put, List.setIfInBounds_toArray, List.set_cons_zero, List.set_cons_succ]
                  refine wpAnyH_ready (rs := [16]) (by kernel_rfl) (by simp) (AllReadyH.cons rfl (fun K hK => ?_) AllReadyH.nil)
                  go_simp
                  refine (below_st 3 _ S0.d.c.rebase (by omega) (by omega)).mono ?_
                  rintro e wm ⟨x16, rfl, hx16a, hx16b, hcm, hgm⟩
                  have BA := (cur_mks S0.d.c.1 hcm.1 hgm).blk BA (by omega)
                  have S1 := S0.cur hcm.1 hgm
                  clear S0 hcm hgm
                  go_wp2_with fail
                  refine hK.out _ _ S1 (fun S0 => ?_)
                  clear hK K S1
                  try simp only [Act.put, List.setIfInBounds_toArray, List.set_cons_zero, List.set_cons_succ]
                  obtain ⟨wn, rfl⟩ : ∃ z, z = wm := ⟨_, rfl⟩
                  refine takeW 17 136 _ rfl rfl S0 ?_
                  try simp only [Act.put, List.setIfInBounds_toArray, List.set_cons_zero, List.set_cons_succ]
                  refine takeW 18 137 (.agg #[.int .i64 s.serial, .int .i64 (1001 + x4), .string (bs na), .int .i64 (1 + x13), .int .i64 x16]) rfl rfl S0 ?_ (hy := Or.inl ⟨by rfl, fun wz hz => by go_simp⟩)
                  try simp only [Act.put, List.setIfInBounds_toArray, List.set_cons_zero, List.set_cons_succ]
                  refine wpAnyH_ready (rs := [20]) (by kernel_rfl) (by simp) (AllReadyH.cons rfl (fun K hK => readyU (by rfl) rfl (run_u (blk_store 72 (arr := #[.int .i64 s.serial, .int .i64 (1001 + x4), .string (bs na), .int .i64 (1 + x13), .int .i64 x16]) BA (by kernel_rfl) rfl (by kernel_rfl))) ?_) AllReadyH.nil)
                  have B2 := blk_rw BA #[.int .i64 s.serial, .int .i64 (1001 + x4), .string (bs na), .int .i64 (1 + x13), .int .i64 x16]
                  refine hK.out _ _ (S0.out (mks_rw BA #[.int .i64 s.serial, .int .i64 (1001 + x4), .string (bs na), .int .i64 (1 + x13), .int .i64 x16] rfl) (fun k e => by subst e; exact ⟨hba, _, _, ⟨_, BA, rfl⟩, by decide, by decide⟩)) (fun S1 => ?_)
                  clear hK K S0 BA
                  try simp only [Act.put, List.setIfInBounds_toArray, List.set_cons_zero, List.set_cons_succ]
                  refine wpAnyH_done (by kernel_rfl) ?_ _
                  go_wp2_with fail
                  go_meet
                  exact ⟨ba, ⟨s.serial, 1001 + x4, na, 1 + x13, x16⟩, rfl, hide B2, hba, by show na.length ≤ 12; omega, by show 0 ≤ 1001 + x4 ∧ 1001 + x4 ≤ 100000; omega, hide S1⟩
              case rest =>
                obtain ⟨bx, ⟨ci, ca, cn, cm, cp⟩, rfl, HBX, hbx, hcn, hca, HDS⟩ := hcut
                simp only at HBX hcn hca
                clear DS0
                have HFT := hide ((unhide HS).fit (by decide) (by decide) (by omega))
                go_upto_region 27 with fail
                refine wp_region_held_drew (S := fun wx => DS w B g ao len cap b q (svc y s) E y s hs wx ∧ Blk wx bx #[.int .i64 ci, .int .i64 ca, .string (bs cn), .int .i64 cm, .int .i64 cp] 72) (by kernel_rfl) ⟨(unhide HDS).drew, (unhide HBX).drew⟩ (fun S0 => ?_)
                generalize wc.drew = wn at S0 ⊢
                refine takeW 0 138 _ rfl rfl S0 ?_
                try simp only [Act.put, List.setIfInBounds_toArray, List.set_cons_zero, List.set_cons_succ]
                refine takeW 1 139 (.agg #[.int .i64 cm, .int .i64 cp]) rfl rfl S0 ?_ (hy := Or.inl ⟨by rfl, fun wz hz => by (have c3 := hz.2.at 3; have c4 := hz.2.at 4; simp at c3 c4; go_simp)⟩)
                try simp only [Act.put, List.setIfInBounds_toArray, List.set_cons_zero, List.set_cons_succ]
                refine takeW 2 140 (sv y s) rfl rfl S0 ?_ (hy := Or.inl ⟨by rfl, fun wz hz => run_v (state_load (DS.d hz.1).x rfl)⟩)
                try simp only [Act.put, List.setIfInBounds_toArray, List.set_cons_zero, List.set_cons_succ]
                refine takeW 3 141 _ rfl rfl S0 ?_
                try simp only [Act.put, List.setIfInBounds_toArray, List.set_cons_zero, List.set_cons_succ]
                refine takeW 4 142 (.string (bs cn)) rfl rfl S0 ?_ (hy := Or.inl ⟨by rfl, fun wz hz => by (have c2 := hz.2.at 2; simp at c2; go_simp)⟩)
                try simp only [Act.put, List.setIfInBounds_toArray, List.set_cons_zero, List.set_cons_succ]
                refine wpAnyH_ready (rs := [5]) (by kernel_rfl) (by simp) (AllReadyH.cons rfl (fun K hK => ?_) AllReadyH.nil)
                go_simp
                refine (specFreeOn_any y s cn _ S0.1.a.row (unhide HFT)).mono ?_
                rintro e wm ⟨rfl, hbm⟩
                have S1 := And.intro (S0.1.below hbm) (S0.2.below hbm)
                clear S0 hbm
                go_wp2_with fail
                refine hK.out _ _ S1 (fun S0 => ?_)
                clear hK K S1
                try simp only [Act.put, List.setIfInBounds_toArray, List.set_cons_zero, List.set_cons_succ]
                obtain ⟨wn, rfl⟩ : ∃ z, z = wm := ⟨_, rfl⟩
                generalize freeOnV s cn = fr
                obtain ⟨fx, fy⟩ := fr
                refine wpAnyH_ready (rs := [6]) (by kernel_rfl) (by simp) (AllReadyH.cons rfl (fun K hK => ?_) AllReadyH.nil)
                go_simp
                refine (specWithin_any cm cp fx fy _).mono ?_
                rintro e wm ⟨rfl, hbm⟩
                have S1 := And.intro (S0.1.below hbm) (S0.2.below hbm)
                clear S0 hbm
                go_wp2_with fail
                refine hK.out _ _ S1 (fun S0 => ?_)
                clear hK K S1
                try simp only [Act.put, List.setIfInBounds_toArray, List.set_cons_zero, List.set_cons_succ]
                obtain ⟨wn, rfl⟩ : ∃ z, z = wm := ⟨_, rfl⟩
                refine wpAnyH_done (by kernel_rfl) ?_ _
                generalize within cm cp fx fy = fits
                have HD := hide S0.1
                have HX := hide S0.2
                clear S0 HDS HBX HFT
                have hse : -1000 ≤ s.serial ∧ s.serial ≤ 100000 := by have := (unhide HS).se; omega
                cases fits
                · have D3 := hide (unhide HD).d
                  have H3 := hide ((unhide HD).a.has (unhide HD).e)
                  have S3 := hide ((unhide HS).next s.cs (by have := (unhide HS).cl; omega) (unhide HS).cn)
                  clear HD HX
                  go_upto_region 29 with fail
                  have D5 := hide ((unhide D3).set 4 (.int .i64 (s.serial + 1)))
                  have H5 := hide ((unhide D3).setH 4 (.int .i64 (s.serial + 1)) (unhide H3))
                  refine wp_region_lit ?_
                  refine wpList_same (v := .pointer (some ⟨b, 4, none⟩)) (d := some 151) rfl rfl (by go_simp) ?_
                  try simp only [Act.put, List.setIfInBounds_toArray, List.set_cons_zero, List.set_cons_succ]
                  refine wpList_same (v := .int .i64 s.serial) (d := some 152) rfl rfl (by (have c4 := (unhide D3).x.at 4; simp at c4; go_simp)) ?_
                  try simp only [Act.put, List.setIfInBounds_toArray, List.set_cons_zero, List.set_cons_succ]
                  refine wpList_same (v := .int .i64 (s.serial + 1)) (d := some 153) rfl rfl (by (go_simp; rw [IntKind.wrap_i64]; omega)) ?_
                  try simp only [Act.put, List.setIfInBounds_toArray, List.set_cons_zero, List.set_cons_succ]
                  refine wpList_same (v := .pointer (some ⟨b, 4, none⟩)) (d := some 154) rfl rfl (by go_simp) ?_
                  try simp only [Act.put, List.setIfInBounds_toArray, List.set_cons_zero, List.set_cons_succ]
                  refine wpList_none (d := none) rfl rfl (run_u (put_cell 3 (.int .i64 (s.serial + 1)) (unhide D3).x (by show 4 < 8; decide) (by kernel_rfl) rfl)) ?_
                  try simp only [Act.put]
                  generalize wn.setCell ⟨b, 4, none⟩ (.int .i64 (s.serial + 1)) = w6 at D5 H5 ⊢
                  clear D3
                  go_wp2
                  go_roundw
                  case rel => exact ⟨k + 1, y, ⟨s.qs, s.clock, s.epoch, s.next, s.serial + 1, s.apps, s.ms, s.cs⟩, hs, by omega, by go_num, D5, hide ⟨(unhide H5).q, (unhide H5).p, (unhide H5).k, (unhide H5).m, (unhide H5).c, (unhide H5).cap, (unhide H5).rm⟩, S3⟩
                  case measure => simp [intOf]; omega
                · go_upto_region 28 with fail
                  have HCL := hide (show y.cl ≤ 1000 by have := (unhide HD).a.row.2.2.2.1; have := (unhide HS).cl; omega)
                  have X0 := (unhide HD).d.x
                  have hbn := below_al (Below.refl _ wn) (.cells #[.int .i64 ci, .int .i64 ca, .string (bs cn), .int .i64 cm, .int .i64 cp] 72)
                  obtain ⟨g4, cq, w4, hrun, HR⟩ := runC (B := w.heap.size) (unhide HD).a.row.2.2.2 ((unhide HD).a.rm.2.2.2.1.mono (Nat.le_refl _) (unhide HD).e) (unhide HD).a.cap.c (unhide HCL) (unhide HD).d.c.2.2.1.size ⟨ci, ca, cn, cm, cp⟩
                  simp only at hrun HR
                  have H2 := (((unhide HD).a.has (unhide HD).e).below hbn).addC ⟨ci, ca, cn, cm, cp⟩ (unhide HR)
                  have D2 := ((unhide HD).d.below hbn).mks (unhide HR).mks (fun k ⟨N, hc, hB⟩ => ⟨hB, _, N, hc, by decide, by decide⟩)
                  have D3 := hide (D2.set 7 (.slice (some ⟨g4, 0, none⟩) (y.cl + 1) cq))
                  have H3 := hide (D2.setH 7 (.slice (some ⟨g4, 0, none⟩) (y.cl + 1) cq) H2)
                  have S3 := hide ((unhide HS).next (s.cs ++ [⟨ci, ca, cn, cm, cp⟩]) (by have := (unhide HS).cl; simp; omega) (fun z hz => by rcases List.mem_append.1 hz with hz | hz; exact (unhide HS).cn z hz; simp at hz; subst hz; exact ⟨hcn, hca⟩))
                  refine wp_region_lit ?_
                  refine wpList_same (v := .pointer (some ⟨b, 7, none⟩)) (d := some 145) rfl rfl (by go_simp) ?_
                  try simp only [Act.put, List.setIfInBounds_toArray, List.set_cons_zero, List.set_cons_succ]
                  refine wpList_same (v := .slice y.ca y.cl y.cc) (d := some 146) rfl rfl (by (have c7 := X0.at 7; simp at c7; go_simp)) ?_
                  try simp only [Act.put, List.setIfInBounds_toArray, List.set_cons_zero, List.set_cons_succ]
                  refine wpList_same (v := .agg #[.int .i64 ci, .int .i64 ca, .string (bs cn), .int .i64 cm, .int .i64 cp]) (d := some 147) rfl rfl (run_v (cont_load (unhide HX) rfl)) ?_
                  try simp only [Act.put, List.setIfInBounds_toArray, List.set_cons_zero, List.set_cons_succ]
                  refine wpList_val (v := .slice (some ⟨wn.heap.size, 0, none⟩) 1 1) (d := some 148) rfl rfl (run_v (run_bs5 wn 27 72 _ (.agg #[.int .i64 0, .int .i64 0, .string ByteArray.empty, .int .i64 0, .int .i64 0]) (.int .i64 ci) (.int .i64 ca) (.string (bs cn)) (.int .i64 cm) (.int .i64 cp) Tryz.underlying27 (by kernel_rfl) (by simp only [List.map_toArray, List.map_cons, List.map_nil]; rfl))) ?_
                  try simp only [Act.put, List.setIfInBounds_toArray, List.set_cons_zero, List.set_cons_succ]
                  refine wpList_val (v := .slice (some ⟨g4, 0, none⟩) (y.cl + 1) cq) (d := some 149) rfl rfl (exec_append rfl rfl rfl hrun) ?_
                  try simp only [Act.put, List.setIfInBounds_toArray, List.set_cons_zero, List.set_cons_succ]
                  refine wpList_same (v := .pointer (some ⟨b, 7, none⟩)) (d := some 150) rfl rfl (by go_simp) ?_
                  try simp only [Act.put, List.setIfInBounds_toArray, List.set_cons_zero, List.set_cons_succ]
                  refine wpList_none (d := none) rfl rfl (run_u (put_cell 27 (.slice (some ⟨g4, 0, none⟩) (y.cl + 1) cq) D2.x (by show 7 < 8; decide) (by kernel_rfl) rfl)) ?_
                  try simp only [Act.put]
                  clear hrun H2 D2 HR hbn X0 HD HX
                  go_upto_region 29 with fail
                  generalize w4.setCell ⟨b, 7, none⟩ (.slice (some ⟨g4, 0, none⟩) (y.cl + 1) cq) = w5 at D3 H3 ⊢
                  have D5 := hide ((unhide D3).set 4 (.int .i64 (s.serial + 1)))
                  have H5 := hide ((unhide D3).setH 4 (.int .i64 (s.serial + 1)) (unhide H3))
                  refine wp_region_lit ?_
                  refine wpList_same (v := .pointer (some ⟨b, 4, none⟩)) (d := some 151) rfl rfl (by go_simp) ?_
                  try simp only [Act.put, List.setIfInBounds_toArray, List.set_cons_zero, List.set_cons_succ]
                  refine wpList_same (v := .int .i64 s.serial) (d := some 152) rfl rfl (by (have c4 := (unhide D3).x.at 4; simp at c4; go_simp)) ?_
                  try simp only [Act.put, List.setIfInBounds_toArray, List.set_cons_zero, List.set_cons_succ]
                  refine wpList_same (v := .int .i64 (s.serial + 1)) (d := some 153) rfl rfl (by (go_simp; rw [IntKind.wrap_i64]; omega)) ?_
                  try simp only [Act.put, List.setIfInBounds_toArray, List.set_cons_zero, List.set_cons_succ]
                  refine wpList_same (v := .pointer (some ⟨b, 4, none⟩)) (d := some 154) rfl rfl (by go_simp) ?_
                  try simp only [Act.put, List.setIfInBounds_toArray, List.set_cons_zero, List.set_cons_succ]
                  refine wpList_none (d := none) rfl rfl (run_u (put_cell 3 (.int .i64 (s.serial + 1)) (unhide D3).x (by show 4 < 8; decide) (by kernel_rfl) rfl)) ?_
                  try simp only [Act.put]
                  generalize w5.setCell ⟨b, 4, none⟩ (.int .i64 (s.serial + 1)) = w6 at D5 H5 ⊢
                  clear D3
                  go_wp2
                  go_roundw
                  case rel => exact ⟨k + 1, ⟨y.qa, y.ql, y.qc, y.aa, y.al, y.ac, y.ma, y.ml, y.mc, some ⟨g4, 0, none⟩, y.cl + 1, cq⟩, ⟨s.qs, s.clock, s.epoch, s.next, s.serial + 1, s.apps, s.ms, s.cs ++ [⟨ci, ca, cn, cm, cp⟩]⟩, hs, by omega, by go_num, D5, hide ⟨(unhide H5).q, (unhide H5).p, (unhide H5).k, (unhide H5).m, (unhide H5).c, (unhide H5).cap, (unhide H5).rm⟩, S3⟩
                  case measure => simp [intOf]; omega
            · have HE := hide ((unhide HS).mono (Nat.le_refl 4) (Nat.le_refl 3) (show k ≤ 6 by omega))
              rcases (show ¬ k < nc ∨ (k < nc ∧ ¬ 0 < nm) ∨ (k < nc ∧ 0 < nm ∧ ¬ 0 < nk) by omega) with h1 | ⟨h1, h2⟩ | ⟨h1, h2, h3⟩
              · have k2 : ¬ (k : Int) < nc := by omega
                go_upto_region 30 with fail
                refine wp_region_lit ?_
                refine wpList_same (v := .agg (svc y s)) (d := some 155) rfl rfl (run_v (state_load (unhide HD).x rfl)) ?_
                try simp only [Act.put, List.setIfInBounds_toArray, List.set_cons_zero, List.set_cons_succ]
                refine wpList_none (d := none) rfl rfl (run_u (blk_store 29 (arr := svc y s) (unhide HD).r (by kernel_rfl) rfl (by kernel_rfl))) ?_
                try simp only [Act.put]
                have RR := hide (blk_rw (unhide HD).r (svc y s))
                have MM := mks_rw (unhide HD).r (svc y s) rfl
                have H9 := hide ((unhide HH).off MM (off_blk (unhide HD).r (by decide) (by decide) (by decide) (by decide) (by decide)))
                have C9 := (unhide HD).c.mks MM (fun k e => by subst e; omega)
                have C8 := hide ((unhide HW).step C9.1 C9.2.2.1)
                clear MM C9 HD HH HS HW
                generalize World.setRow wr w.heap.size (svc y s) = W9 at RR H9 C8 ⊢
                have z0 := (unhide RR).at 0; have z1 := (unhide RR).at 1; have z2 := (unhide RR).at 2; have z3 := (unhide RR).at 3; have z4 := (unhide RR).at 4; have z5 := (unhide RR).at 5; have z6 := (unhide RR).at 6; have z7 := (unhide RR).at 7
                simp at z0 z1 z2 z3 z4 z5 z6 z7
                go_wp2
                refine bodyPost_ret (v := sv y s) (by simp [results, Tryz.results79, go_sem, z0, z1, z2, z3, z4, z5, z6, z7]) rfl ?_
                exact ⟨y, s, rfl, ⟨hs, H9⟩, HE, C8⟩
              · have k2 : (k : Int) < nc := by omega
                have m2 : ¬ (0 : Int) < nm := by omega
                go_upto_region 30 with fail
                refine wp_region_lit ?_
                refine wpList_same (v := .agg (svc y s)) (d := some 155) rfl rfl (run_v (state_load (unhide HD).x rfl)) ?_
                try simp only [Act.put, List.setIfInBounds_toArray, List.set_cons_zero, List.set_cons_succ]
                refine wpList_none (d := none) rfl rfl (run_u (blk_store 29 (arr := svc y s) (unhide HD).r (by kernel_rfl) rfl (by kernel_rfl))) ?_
                try simp only [Act.put]
                have RR := hide (blk_rw (unhide HD).r (svc y s))
                have MM := mks_rw (unhide HD).r (svc y s) rfl
                have H9 := hide ((unhide HH).off MM (off_blk (unhide HD).r (by decide) (by decide) (by decide) (by decide) (by decide)))
                have C9 := (unhide HD).c.mks MM (fun k e => by subst e; omega)
                have C8 := hide ((unhide HW).step C9.1 C9.2.2.1)
                clear MM C9 HD HH HS HW
                generalize World.setRow wr w.heap.size (svc y s) = W9 at RR H9 C8 ⊢
                have z0 := (unhide RR).at 0; have z1 := (unhide RR).at 1; have z2 := (unhide RR).at 2; have z3 := (unhide RR).at 3; have z4 := (unhide RR).at 4; have z5 := (unhide RR).at 5; have z6 := (unhide RR).at 6; have z7 := (unhide RR).at 7
                simp at z0 z1 z2 z3 z4 z5 z6 z7
                go_wp2
                refine bodyPost_ret (v := sv y s) (by simp [results, Tryz.results79, go_sem, z0, z1, z2, z3, z4, z5, z6, z7]) rfl ?_
                exact ⟨y, s, rfl, ⟨hs, H9⟩, HE, C8⟩
              · have k2 : (k : Int) < nc := by omega
                have m2 : (0 : Int) < nm := by omega
                have q2 : ¬ (0 : Int) < nk := by omega
                go_upto_region 30 with fail
                refine wp_region_lit ?_
                refine wpList_same (v := .agg (svc y s)) (d := some 155) rfl rfl (run_v (state_load (unhide HD).x rfl)) ?_
                try simp only [Act.put, List.setIfInBounds_toArray, List.set_cons_zero, List.set_cons_succ]
                refine wpList_none (d := none) rfl rfl (run_u (blk_store 29 (arr := svc y s) (unhide HD).r (by kernel_rfl) rfl (by kernel_rfl))) ?_
                try simp only [Act.put]
                have RR := hide (blk_rw (unhide HD).r (svc y s))
                have MM := mks_rw (unhide HD).r (svc y s) rfl
                have H9 := hide ((unhide HH).off MM (off_blk (unhide HD).r (by decide) (by decide) (by decide) (by decide) (by decide)))
                have C9 := (unhide HD).c.mks MM (fun k e => by subst e; omega)
                have C8 := hide ((unhide HW).step C9.1 C9.2.2.1)
                clear MM C9 HD HH HS HW
                generalize World.setRow wr w.heap.size (svc y s) = W9 at RR H9 C8 ⊢
                have z0 := (unhide RR).at 0; have z1 := (unhide RR).at 1; have z2 := (unhide RR).at 2; have z3 := (unhide RR).at 3; have z4 := (unhide RR).at 4; have z5 := (unhide RR).at 5; have z6 := (unhide RR).at 6; have z7 := (unhide RR).at 7
                simp at z0 z1 z2 z3 z4 z5 z6 z7
                go_wp2
                refine bodyPost_ret (v := sv y s) (by simp [results, Tryz.results79, go_sem, z0, z1, z2, z3, z4, z5, z6, z7]) rfl ?_
                exact ⟨y, s, rfl, ⟨hs, H9⟩, HE, C8⟩
end Go.Proofs.YtcplnodfcchdhaaGreat
