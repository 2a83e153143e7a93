/-
  Several texts of this claim in one: DrF, IntS, DrG (pack.py put them together); each says in its own remark what is proved.
-/
import Derived.Test.YtcplnodfcchdhaaGreatDrD
import Derived.Test.YtcplnodfcchdhaaGreatPackZ
import Derived.Test.YtcplnodfcchdhaaGreatQueD
import Derived.Deep.CutBlock
import Derived.Test.YtcplnodfcchdhaaGreatPackA
import Derived.Laws.AppendOwn
/-
  A state drawn, and spoilt now and then: what l04Spoilt answers; a walk over the dump.
-/
namespace Go.Proofs.YtcplnodfcchdhaaGreat
open Go.RowKit
set_option linter.unusedVariables false
set_option linter.unusedSimpArgs false
theorem svc_nostr (x : Sls) (s : St) (j : Nat) (b : ByteArray) : (svc x s)[j]? ≠ some (.string b) := by
  match j with
  | 0 | 1 | 2 | 3 | 4 | 5 | 6 | 7 => simp
  | j + 8 => simp
theorem qrow_off {w : World} {ao : Option Addr} {n b : Nat} {l : List Q} {x : Sls} {s : St} (h : QRow w ao n l) (hx : Blk w b (svc x s) 29) : ∀ k, inR ao n k → ¬ k = b := fun k hk e => by
  subst e
  obtain ⟨hn, o, rfl⟩ := hk
  obtain ⟨h1, h2⟩ := h
  rcases h2 with h2 | ⟨b', off, e, h3⟩
  · exact hn h2
  · cases e
    have h4 := (h3 0 (by omega)).1
    rw [hx.at] at h4
    exact svc_nostr _ _ _ _ h4
theorem DrS.mkb {g b : Nat} {w w' : World} {y x' : Sls} {s s' : St} {hs : List AV} (h : DrS g w y s hs) (hm : Mks (fun k => k = b) w w') (hx : Blk w b (svc x' s') 29) : DrS g w' y s hs := by
  have ho := off_blk (B := g + 1) hx (by decide) (by decide) (by decide) (by decide) (by decide)
  exact ⟨h.q.mks hm (qrow_off h.q hx), h.qg, h.p.off hm ho.p, h.k.off hm ho.a, h.m.off hm ho.m, h.c.off hm ho.c, h.cap, h.sm, h.fit, h.wf⟩

set_option maxRecDepth 100000 in
set_option maxHeartbeats 8000000 in
theorem spoilt_st {w0 : World} {B g : Nat} {ao : Option Addr} {len cap : Nat} (w : World) (h : CSt w0 B g ao len cap w) :
    Calls Tryz.prog 33 #[.pointer (some ⟨g, 0, none⟩)] w fun e w' => ∃ y s hs, e = .returned (sv y s) ∧ Hid (DrS g w' y s hs) ∧ Hid (CSt w0 B g ao len cap w') := by
  have HW := hide h
  have hgl := h.1.lt
  have C0 := hide (show CSt w B g ao len cap (w.alloc (.cells #[.slice none 0 0, .int .i64 0, .int .i64 0, .int .i64 0, .int .i64 0, .slice none 0 0, .slice none 0 0, .slice none 0 0] 29)) from h.rebase.alloc _)
  have R0 := hide (blk_new w #[.slice none 0 0, .int .i64 0, .int .i64 0, .int .i64 0, .int .i64 0, .slice none 0 0, .slice none 0 0, .slice none 0 0] 29)
  clear h
  go_enter Tryz.func33, Tryz.ntmps33
  go_wp2_with fail
  refine (state_st _ (unhide C0).rebase).mono ?_
  rintro e w1 ⟨y, s, hs, rfl, hh, hsm, hc1⟩
  have R1 := hide ((cur_mks (unhide C0).1 (unhide hc1).1 (unhide hc1).2.2.1).blk (unhide R0) (by omega))
  have C1 := hide ((unhide C0).step (unhide hc1).1 (unhide hc1).2.2.1)
  have H1 := hide ((unhide hh).base (show w.heap.size ≤ (w.alloc (.cells #[.slice none 0 0, .int .i64 0, .int .i64 0, .int .i64 0, .int .i64 0, .slice none 0 0, .slice none 0 0, .slice none 0 0] 29)).heap.size by rw [al_size]; omega))
  have HF := hide ((unhide hsm).fit (by decide) (by decide) (by decide))
  have HWF := hide (unhide hsm).wf
  have hz1 : w.heap.size + 1 ≤ w1.heap.size := (unhide R1).lt
  have b2 := below_al (Below.refl _ w1) (.cells (svc y s) 29)
  have D2 := hide (show DT w B g ao len cap w1.heap.size (svc y s) (w1.alloc (.cells (svc y s) 29)) from ⟨(unhide C1).below b2, hgl, blk_new w1 _ _, by omega, (unhide R1).below b2⟩)
  have H2 := hide ((unhide H1).below b2)
  have HCL := hide (show y.cl ≤ 1000 by have := (unhide hh).c.1.1; have := (unhide hsm).cl; omega)
  have HSM := hsm
  clear hh hc1 C0 R0 C1 R1 H1 b2 hsm
  go_wp2_with fail
  refine (below_st 24 _ (unhide D2).c (by decide) (by decide)).mono ?_
  rintro e w3 ⟨x7, rfl, hn0, hn1, hc3, hg3⟩
  have D3 := hide ((unhide D2).cur hc3.1 hg3)
  have H3 := hide ((unhide D2).off hc3.1 hg3 (unhide H2))
  obtain ⟨b, hbb⟩ : ∃ b, w1.heap.size = b := ⟨_, rfl⟩
  rw [hbb] at D3 ⊢
  clear D2 H2 hc3 hg3 hbb hz1
  go_upto_block 0 with fail
  go_cut [] from 8 to 73 (fun wx => ∃ (y : Sls) (s : St) (hs : List AV), Hid (Blk wx b (svc y s) 29) ∧ Hid (DrS g wx y s hs) ∧ Hid (CSt w B g ao len cap wx) ∧ Hid (Blk wx w.heap.size zero8 29))
  case first =>
    have hcs : x7 = 0 ∨ x7 = 1 ∨ x7 = 2 ∨ x7 = 3 ∨ x7 = 4 ∨ x7 = 5 ∨ x7 = 6 ∨ 6 < x7 := by omega
    rcases hcs with rfl | rfl | rfl | rfl | rfl | rfl | rfl | h6
    · have hq := hide (ints_alloc w3 3 [-1, 1000000000, 1000000001] (by decide))
      go_wp2_with fail
      refine (pick_st w3.heap.size 3 3 _ ((unhide D3).c.alloc _).rebase (unhide hq) (by have := (unhide D3).c.1.lt; omega) (by decide) (by decide)).mono ?_
      rintro e w4 ⟨x, rfl, hx0, hx1, hc4⟩
      have b4 := below_al (Below.refl _ w3) (.cells #[.int .i64 (-1), .int .i64 1000000000, .int .i64 1000000001] 3)
      have D4 := ((unhide D3).below b4).cur hc4.1 hc4.2.2.1
      have H4 := ((unhide D3).below b4).off hc4.1 hc4.2.2.1 ((unhide H3).below b4)
      have D5 := hide (D4.set 1 (.int .i64 x))
      have H5 := hide (D4.setH 1 (.int .i64 x) H4)
      have cx := D4.x.at 1
      have fx := D4.x.f 1
      simp at cx
      clear D4 H4 D3 H3 hc4 b4 hq
      go_wp2_with fail
      go_meet
      exact ⟨y, ⟨s.qs, x, s.epoch, s.next, s.serial, s.apps, s.ms, s.cs⟩, hs, hide (unhide D5).x, hide (DrS.of (B := w.heap.size) ⟨(unhide H5).q, (unhide H5).p, (unhide H5).k, (unhide H5).m, (unhide H5).c, (unhide H5).cap, (unhide H5).rm⟩ hgl (unhide HF) (unhide HWF)), hide (unhide D5).c, hide (unhide D5).r⟩
    · have hq := hide (ints_alloc w3 3 [0, 2] (by decide))
      go_wp2_with fail
      refine (pick_st w3.heap.size 2 2 _ ((unhide D3).c.alloc _).rebase (unhide hq) (by have := (unhide D3).c.1.lt; omega) (by decide) (by decide)).mono ?_
      rintro e w4 ⟨x, rfl, hx0, hx1, hc4⟩
      have b4 := below_al (Below.refl _ w3) (.cells #[.int .i64 0, .int .i64 2] 3)
      have D4 := ((unhide D3).below b4).cur hc4.1 hc4.2.2.1
      have H4 := ((unhide D3).below b4).off hc4.1 hc4.2.2.1 ((unhide H3).below b4)
      have D5 := hide (D4.set 2 (.int .i64 x))
      have H5 := hide (D4.setH 2 (.int .i64 x) H4)
      have cx := D4.x.at 2
      have fx := D4.x.f 2
      simp at cx
      clear D4 H4 D3 H3 hc4 b4 hq
      go_wp2_with fail
      go_meet
      exact ⟨y, ⟨s.qs, s.clock, x, s.next, s.serial, s.apps, s.ms, s.cs⟩, hs, hide (unhide D5).x, hide (DrS.of (B := w.heap.size) ⟨(unhide H5).q, (unhide H5).p, (unhide H5).k, (unhide H5).m, (unhide H5).c, (unhide H5).cap, (unhide H5).rm⟩ hgl (unhide HF) (unhide HWF)), hide (unhide D5).c, hide (unhide D5).r⟩
    · go_wp2_with fail
      refine (queues_st _ (unhide D3).c.rebase).mono ?_
      rintro e w4 ⟨qb, n, c', ls, rfl, hrow, hqb, hnc, hn1000, hbr, hc4⟩
      have D4 := (unhide D3).cur (unhide hc4).1 (unhide hc4).2.2.1
      have H4 := (unhide D3).off (unhide hc4).1 (unhide hc4).2.2.1 (unhide H3)
      have D5 := hide (D4.set 0 (.slice (some ⟨qb, 0, none⟩) n c'))
      have H5 := hide (D4.setH 0 (.slice (some ⟨qb, 0, none⟩) n c') H4)
      have Q5 := hide ((unhide hrow).mks (Mks.one (fun k => k = b) w4 b 0 (.slice (some ⟨qb, 0, none⟩) n c') rfl) (qrow_off (unhide hrow) D4.x))
      have F5 := hide (show FitQ ls from ⟨by have := (unhide hrow).1; omega, fun q hq => by have := unhide hbr q hq; omega⟩)
      have cx := D4.x.at 0
      have fx := D4.x.f 0
      simp at cx
      clear D4 H4 D3 H3 hc4 hrow hbr
      go_wp2_with fail
      go_meet
      have O5 := DrS.of (g := g) (unhide H5) hgl (unhide HF) (unhide HWF)
      exact ⟨⟨some ⟨qb, 0, none⟩, n, c', y.aa, y.al, y.ac, y.ma, y.ml, y.mc, y.ca, y.cl, y.cc⟩, ⟨ls, s.clock, s.epoch, s.next, s.serial, s.apps, s.ms, s.cs⟩, hs, hide (unhide D5).x, hide ⟨unhide Q5, fun k hk => by obtain ⟨_, o, e⟩ := hk; cases e; exact hqb.1, O5.p, O5.k, O5.m, O5.c, hnc, ⟨(fun e => by cases e), O5.sm.m, O5.sm.c, O5.sm.k⟩, ⟨unhide F5, (unhide HF).2⟩, unhide HWF⟩, hide (unhide D5).c, hide (unhide D5).r⟩
    · cases hls : s.cs with
      | nil =>
        have h0 : y.cl = 0 := by have := (unhide H3).c.1.1; rw [hls] at this; simpa using this
        have cx := (unhide D3).x.at 7
        simp at cx
        rw [h0] at cx
        go_wp2_with fail
        go_meet
        exact ⟨y, s, hs, hide (unhide D3).x, hide (DrS.of (unhide H3) hgl (unhide HF) (unhide HWF)), hide (unhide D3).c, hide (unhide D3).r⟩
      | cons c t =>
        have hl : 0 < y.cl := by have := (unhide H3).c.1.1; rw [hls] at this; simp at this; omega
        obtain ⟨gC, M, hga, hgB, hcel, hM⟩ := own_blk (unhide H3).c.2 hl
        have l1 : (0 : Int) < y.cl := by omega
        have cx := (unhide D3).x.at 7
        simp at cx
        rw [hga] at cx
        clear hcel hM
        go_upto_region 11 with fail
        clear cx
        refine wp_region_held_drew (S := fun wx => DT w B g ao len cap b (svc y s) wx) (by kernel_rfl) ((unhide D3).below (Below.refl _ _).drew) (fun S0 => ?_)
        have H4 := (unhide H3).below (Below.refl _ w3).drew
        generalize w3.drew = wn at S0 H4 ⊢
        refine takeW 0 31 _ rfl rfl S0 ?_
        try simp only [Act.put, List.setIfInBounds_toArray, List.set_cons_zero, List.set_cons_succ]
        refine takeW 1 32 (.slice (some ⟨gC, 0, none⟩) y.cl y.cc) rfl rfl S0 ?_ (hy := Or.inl ⟨by rfl, fun wz hz => by (have cz := (DT.x hz).at 7; simp at cz; rw [hga] at cz; go_simp)⟩)
        try simp only [Act.put, List.setIfInBounds_toArray, List.set_cons_zero, List.set_cons_succ]
        refine takeW 2 33 _ rfl rfl S0 ?_
        try simp only [Act.put, List.setIfInBounds_toArray, List.set_cons_zero, List.set_cons_succ]
        refine wpAnyH_ready (rs := [3]) (by kernel_rfl) (by simp) (AllReadyH.cons rfl (fun K hK => ?_) AllReadyH.nil)
        go_wp2_with fail
        have PT := ints_alloc wn 3 [0, 100, -1] (by decide)
        have hqg : g < wn.heap.size := S0.c.1.lt
        have b5 := below_al (Below.refl _ wn) (.cells #[.int .i64 0, .int .i64 100, .int .i64 (-1)] 3)
        refine hK.out _ _ (S0.below b5) (fun S1 => ?_)
        have H5 := H4.below b5
        clear hK K S0 H4 b5
        try simp only [Act.put, List.setIfInBounds_toArray, List.set_cons_zero, List.set_cons_succ]
        simp only [List.map_cons, List.map_nil, List.length_cons, List.length_nil, Nat.zero_add, Nat.reduceAdd] at PT
        generalize wn.alloc (.cells #[.int .i64 0, .int .i64 100, .int .i64 (-1)] 3) = wm at PT S1 H5 ⊢
        generalize wn.heap.size = qq at PT hqg ⊢
        refine wpAnyH_ready (rs := [4]) (by kernel_rfl) (by simp) (AllReadyH.cons rfl (fun K hK => ?_) AllReadyH.nil)
        go_simp
        refine (pick_st qq 3 3 _ S1.c.rebase PT (by omega) (by decide) (by decide)).mono ?_
        rintro e wo ⟨x, rfl, hx0, hx1, hcm⟩
        have H6 := S1.off hcm.1 hcm.2.2.1 H5
        have S2 := S1.cur hcm.1 hcm.2.2.1
        clear S1 H5 hcm PT
        go_wp2_with fail
        refine hK.out _ _ S2 (fun S0 => ?_)
        clear hK K S2
        try simp only [Act.put, List.setIfInBounds_toArray, List.set_cons_zero, List.set_cons_succ]
        obtain ⟨⟨arr, hblk, hasz, _⟩, H7⟩ := H6.mem0 hga hls x
        refine takeW 5 36 _ rfl rfl S0 ?_
        try simp only [Act.put, List.setIfInBounds_toArray, List.set_cons_zero, List.set_cons_succ]
        refine takeW 6 37 _ rfl rfl S0 ?_
        try simp only [Act.put, List.setIfInBounds_toArray, List.set_cons_zero, List.set_cons_succ]
        refine takeW 7 38 _ rfl rfl S0 ?_
        try simp only [Act.put, List.setIfInBounds_toArray, List.set_cons_zero, List.set_cons_succ]
        refine wpAnyH_ready (rs := [8]) (by kernel_rfl) (by simp) (AllReadyH.cons rfl (fun K hK => readyU (by rfl) rfl (run_u (put_cell 3 (.int .i64 x) hblk hasz (by kernel_rfl) rfl)) ?_) AllReadyH.nil)
        have D7 := S0.mks (Mks.one (fun k => k = gC) wo gC 3 (.int .i64 x) rfl) (fun k e => by subst e; exact ⟨hgB, _, _, ⟨arr, hblk, rfl⟩, by decide⟩)
        refine hK.out _ _ D7 (fun _ => ?_)
        clear hK K S0
        try simp only [Act.put, List.setIfInBounds_toArray, List.set_cons_zero, List.set_cons_succ]
        refine wpAnyH_done (by kernel_rfl) ?_ _
        go_wp2_with fail
        go_meet
        exact ⟨y, ⟨s.qs, s.clock, s.epoch, s.next, s.serial, s.apps, s.ms, ⟨c.id, c.app, c.node, x, c.cpu⟩ :: t⟩, hs, hide D7.x, hide (DrS.of H7 hgl ⟨(unhide HF).1, (unhide HF).2.1, (unhide HF).2.2.1, by have h8 := (unhide HF).2.2.2; rw [hls] at h8; exact ⟨by simpa using h8.1, fun z hz => by rcases List.mem_cons.1 hz with rfl | hz; exact h8.2 c (by simp); exact h8.2 z (by simp [hz])⟩⟩ ⟨(unhide HWF).1, fun z hz => by have h8 := (unhide HWF).2; rw [hls] at h8; rcases List.mem_cons.1 hz with rfl | hz; exact h8 c (by simp); exact h8 z (by simp [hz])⟩), hide D7.c, hide D7.r⟩
    · cases hls : s.apps with
      | nil =>
        have h0 : y.al = 0 := by have := (unhide H3).p.1.1.trans (unhide H3).k.heads.1; rw [hls] at this; simpa using this
        have cx := (unhide D3).x.at 5
        simp at cx
        rw [h0] at cx
        go_wp2_with fail
        go_meet
        exact ⟨y, s, hs, hide (unhide D3).x, hide (DrS.of (unhide H3) hgl (unhide HF) (unhide HWF)), hide (unhide D3).c, hide (unhide D3).r⟩
      | cons c t =>
        have hl : 0 < y.al := by have := (unhide H3).p.1.1.trans (unhide H3).k.heads.1; rw [hls] at this; simp at this; omega
        obtain ⟨gC, M, hga, hgB, hcel, hM⟩ := own_blk (unhide H3).p.2 hl
        have l1 : (0 : Int) < y.al := by omega
        have cx := (unhide D3).x.at 5
        simp at cx
        rw [hga] at cx
        clear hcel hM
        go_upto_region 14 with fail
        clear cx
        refine wp_region_held_drew (S := fun wx => DT w B g ao len cap b (svc y s) wx) (by kernel_rfl) ((unhide D3).below (Below.refl _ _).drew) (fun S0 => ?_)
        have H4 := (unhide H3).below (Below.refl _ w3).drew
        generalize w3.drew = wn at S0 H4 ⊢
        refine takeW 0 45 _ rfl rfl S0 ?_
        try simp only [Act.put, List.setIfInBounds_toArray, List.set_cons_zero, List.set_cons_succ]
        refine takeW 1 46 (.slice (some ⟨gC, 0, none⟩) y.al y.ac) rfl rfl S0 ?_ (hy := Or.inl ⟨by rfl, fun wz hz => by (have cz := (DT.x hz).at 5; simp at cz; rw [hga] at cz; go_simp)⟩)
        try simp only [Act.put, List.setIfInBounds_toArray, List.set_cons_zero, List.set_cons_succ]
        refine takeW 2 47 _ rfl rfl S0 ?_
        try simp only [Act.put, List.setIfInBounds_toArray, List.set_cons_zero, List.set_cons_succ]
        refine wpAnyH_ready (rs := [3]) (by kernel_rfl) (by simp) (AllReadyH.cons rfl (fun K hK => ?_) AllReadyH.nil)
        go_wp2_with fail
        have PT := pickt_alloc wn 9 [⟨#[114, 111, 111, 116]⟩, ⟨#[110, 111, 110, 101]⟩] (by decide)
        have hqg : g < wn.heap.size := S0.c.1.lt
        have b5 := below_al (Below.refl _ wn) (.cells #[.string ⟨#[114, 111, 111, 116]⟩, .string ⟨#[110, 111, 110, 101]⟩] 9)
        refine hK.out _ _ (S0.below b5) (fun S1 => ?_)
        have H5 := H4.below b5
        clear hK K S0 H4 b5
        try simp only [Act.put, List.setIfInBounds_toArray, List.set_cons_zero, List.set_cons_succ]
        simp only [List.map_cons, List.map_nil, List.length_cons, List.length_nil, Nat.zero_add, Nat.reduceAdd] at PT
        generalize wn.alloc (.cells #[.string ⟨#[114, 111, 111, 116]⟩, .string ⟨#[110, 111, 110, 101]⟩] 9) = wm at PT S1 H5 ⊢
        generalize wn.heap.size = qq at PT hqg ⊢
        refine wpAnyH_ready (rs := [4]) (by kernel_rfl) (by simp) (AllReadyH.cons rfl (fun K hK => ?_) AllReadyH.nil)
        go_simp
        refine (pickS_st qq 2 2 _ S1.c.rebase PT (by omega) (by decide) (by decide)).mono ?_
        rintro e wo ⟨sq, rfl, hsq, hcm⟩
        obtain ⟨x, rfl⟩ : ∃ l, sq = bs l := ⟨_, (bs_bk _).symm⟩
        rw [bs_size] at hsq
        have H6 := S1.off hcm.1 hcm.2.2.1 H5
        have S2 := S1.cur hcm.1 hcm.2.2.1
        clear S1 H5 hcm PT
        go_wp2_with fail
        refine hK.out _ _ S2 (fun S0 => ?_)
        clear hK K S2
        try simp only [Act.put, List.setIfInBounds_toArray, List.set_cons_zero, List.set_cons_succ]
        obtain ⟨v0, hs1, rfl⟩ : ∃ v l, hs = v :: l := by
          cases hs with
          | nil => have := H6.k.heads.1; rw [hls] at this; simp at this
          | cons v l => exact ⟨v, l, rfl⟩
        obtain ⟨⟨arr, hblk, hasz, _⟩, H7⟩ := H6.queue0 hga hls x
        refine takeW 5 50 _ rfl rfl S0 ?_
        try simp only [Act.put, List.setIfInBounds_toArray, List.set_cons_zero, List.set_cons_succ]
        refine takeW 6 51 _ rfl rfl S0 ?_
        try simp only [Act.put, List.setIfInBounds_toArray, List.set_cons_zero, List.set_cons_succ]
        refine wpAnyH_ready (rs := [7]) (by kernel_rfl) (by simp) (AllReadyH.cons rfl (fun K hK => readyU (by rfl) rfl (run_u (put_cell 9 (.string (bs x)) hblk hasz (by kernel_rfl) rfl)) ?_) AllReadyH.nil)
        have D7 := S0.mks (Mks.one (fun k => k = gC) wo gC 1 (.string (bs x)) rfl) (fun k e => by subst e; exact ⟨hgB, _, _, ⟨arr, hblk, rfl⟩, by decide⟩)
        refine hK.out _ _ D7 (fun _ => ?_)
        clear hK K S0
        try simp only [Act.put, List.setIfInBounds_toArray, List.set_cons_zero, List.set_cons_succ]
        refine wpAnyH_done (by kernel_rfl) ?_ _
        go_wp2_with fail
        go_meet
        exact ⟨y, ⟨s.qs, s.clock, s.epoch, s.next, s.serial, ⟨c.id, x, c.asks⟩ :: t, s.ms, s.cs⟩, (⟨v0.id, x, v0.ao, v0.len, v0.cap⟩ :: hs1), hide D7.x, hide (DrS.of H7 hgl ⟨(unhide HF).1, by have h8 := (unhide HF).2.1; rw [hls] at h8; exact ⟨by simpa using h8.1, fun z hz => by rcases List.mem_cons.1 hz with rfl | hz; exact ⟨by show x.length ≤ 1048576; omega, (h8.2 c (by simp)).2⟩; exact h8.2 z (by simp [hz])⟩, (unhide HF).2.2⟩ ⟨fun z hz => by have h8 := (unhide HWF).1; rw [hls] at h8; rcases List.mem_cons.1 hz with rfl | hz; exact h8 c (by simp); exact h8 z (by simp [hz]), (unhide HWF).2⟩), hide D7.c, hide D7.r⟩
    · cases hls : s.ms with
      | nil =>
        have h0 : y.ml = 0 := by have := (unhide H3).m.1.1; rw [hls] at this; simpa using this
        have cx := (unhide D3).x.at 6
        simp at cx
        rw [h0] at cx
        go_wp2_with fail
        go_meet
        exact ⟨y, s, hs, hide (unhide D3).x, hide (DrS.of (unhide H3) hgl (unhide HF) (unhide HWF)), hide (unhide D3).c, hide (unhide D3).r⟩
      | cons c t =>
        have hl : 0 < y.ml := by have := (unhide H3).m.1.1; rw [hls] at this; simp at this; omega
        obtain ⟨gC, M, hga, hgB, hcel, hM⟩ := own_blk (unhide H3).m.2 hl
        have l1 : (0 : Int) < y.ml := by omega
        have cx := (unhide D3).x.at 6
        simp at cx
        rw [hga] at cx
        clear hcel hM
        obtain ⟨⟨arr, hblk, hasz, _⟩, H7⟩ := (unhide H3).seen0 hga hls 5
        have D7 := (unhide D3).mks (Mks.one (fun k => k = gC) w3 gC 3 (.int .i64 5) rfl) (fun k e => by subst e; exact ⟨hgB, _, _, ⟨arr, hblk, rfl⟩, by decide⟩)
        have c3 : w3.cell? ⟨gC, 3, none⟩ = some arr[3] := by rw [hblk.at]; simp [hasz]
        have f3 := hblk.f 3
        go_wp2_with fail
        go_meet
        exact ⟨y, ⟨s.qs, s.clock, s.epoch, s.next, s.serial, s.apps, ⟨c.name, c.mem, c.cpu, 5⟩ :: t, s.cs⟩, hs, hide D7.x, hide (DrS.of H7 hgl ⟨(unhide HF).1, (unhide HF).2.1, by have h8 := (unhide HF).2.2.1; rw [hls] at h8; exact ⟨by simpa using h8.1, fun z hz => by rcases List.mem_cons.1 hz with rfl | hz; exact h8.2 c (by simp); exact h8.2 z (by simp [hz])⟩, (unhide HF).2.2.2⟩ (unhide HWF)), hide D7.c, hide D7.r⟩
    · go_upto_region 19 with fail
      refine wp_region_x 8 (fun _ => True) (fun wx => DT w B g ao len cap b (svc y s) wx ∧ SHas w.heap.size wx y s hs) (by kernel_rfl) trivial ⟨(unhide D3).below (Below.refl _ _).drew, (unhide H3).below (Below.refl _ _).drew⟩ (fun S0 T0 => ?_)
      generalize w3.drew = wn at T0 ⊢
      refine takeXS 0 64 _ rfl rfl S0 T0 ?_
      try simp only [Act.put, List.setIfInBounds_toArray, List.set_cons_zero, List.set_cons_succ]
      refine takeXT 1 65 (.slice y.ca y.cl y.cc) rfl rfl S0 T0 ?_ (hy := Or.inl ⟨by rfl, fun wz hz => by (have cz := hz.1.x.at 7; simp at cz; go_simp)⟩)
      try simp only [Act.put, List.setIfInBounds_toArray, List.set_cons_zero, List.set_cons_succ]
      refine takeXS 2 66 _ rfl rfl S0 T0 ?_
      try simp only [Act.put, List.setIfInBounds_toArray, List.set_cons_zero, List.set_cons_succ]
      refine takeXS 5 69 _ rfl rfl S0 T0 ?_
      try simp only [Act.put, List.setIfInBounds_toArray, List.set_cons_zero, List.set_cons_succ]
      refine wpAnyX_ready [3] (AllReadyX.cons rfl (fun K hK => ?_) AllReadyX.nil)
      go_simp
      refine (below_st 9 _ T0.1.c.rebase (by decide) (by decide)).mono ?_
      rintro e wm ⟨x3, rfl, hx3a, hx3b, hcn, hgn⟩
      have T1 := And.intro (T0.1.cur hcn.1 hgn) (T0.1.off hcn.1 hgn T0.2)
      clear S0 T0 hcn hgn
      go_wp2_with fail
      refine hK.out _ _ trivial (fun _ => T1) ?_
      clear hK K
      have S0 := trivial
      have T0 := T1
      clear T1
      try simp only [Act.put, List.setIfInBounds_toArray, List.set_cons_zero, List.set_cons_succ]
      refine takeXS 4 68 (.int .i64 (1000 + x3)) rfl rfl S0 T0 ?_ (hy := Or.inl ⟨by rfl, fun wz hz => by (go_simp; rw [IntKind.wrap_i64]; omega)⟩)
      try simp only [Act.put, List.setIfInBounds_toArray, List.set_cons_zero, List.set_cons_succ]
      refine takeXS 6 70 (.agg #[.int .i64 900, .int .i64 (1000 + x3), .string (bs [109, 49]), .int .i64 1, .int .i64 0]) rfl rfl S0 T0 ?_ (hy := Or.inl ⟨by rfl, fun wz hz => by (go_simp; rfl)⟩)
      try simp only [Act.put, List.setIfInBounds_toArray, List.set_cons_zero, List.set_cons_succ]
      have hbn := below_al (Below.refl _ wm) (.cells #[.int .i64 900, .int .i64 (1000 + x3), .string (bs [109, 49]), .int .i64 1, .int .i64 0] 72)
      obtain ⟨g4, cp, w4, hrun, HA⟩ := runC (B := w.heap.size) T0.2.c.1 T0.2.rm.2.2.2.1 T0.2.cap.c (unhide HCL) T0.1.c.2.2.1.size ⟨900, 1000 + x3, [109, 49], 1, 0⟩
      simp only at hrun HA
      have D4 := (T0.1.below hbn).mks (unhide HA).mks (fun k ⟨N, hc, hB⟩ => ⟨hB, _, N, hc, by decide⟩)
      have H4 := (T0.2.below hbn).addC ⟨900, 1000 + x3, [109, 49], 1, 0⟩ (unhide HA)
      have D5 := hide (D4.set 7 (.slice (some ⟨g4, 0, none⟩) (y.cl + 1) cp))
      have H5 := hide (D4.setH 7 (.slice (some ⟨g4, 0, none⟩) (y.cl + 1) cp) H4)
      have X4 := D4.x
      have SM := hide ((unhide HSM).addC ⟨900, 1000 + x3, [109, 49], 1, 0⟩ (by show ([109, 49] : List UInt8).length ≤ 12 ∧ 0 ≤ 1000 + x3 ∧ 1000 + x3 ≤ 100000; simp; omega))
      refine wpAnyX_ready [7] (AllReadyX.cons rfl (fun K hK => readyV 71 (by rfl) rfl (run_v (run_bs5 wm 27 72 _ (.agg #[.int .i64 0, .int .i64 0, .string ByteArray.empty, .int .i64 0, .int .i64 0]) (.int .i64 900) (.int .i64 (1000 + x3)) (.string (bs [109, 49])) (.int .i64 1) (.int .i64 0) Tryz.underlying27 (by kernel_rfl) (by simp only [List.map_toArray, List.map_cons, List.map_nil]; rfl))) ?_) AllReadyX.nil)
      refine hK.out _ _ trivial (fun _ => ⟨T0.1.below hbn, T0.2.below hbn⟩) ?_
      clear hK K
      try simp only [Act.put, List.setIfInBounds_toArray, List.set_cons_zero, List.set_cons_succ]
      refine wpAnyX_ready [8] (AllReadyX.cons rfl (fun K hK => readyV 72 (by rfl) rfl (exec_append rfl rfl rfl hrun) ?_) AllReadyX.nil)
      refine hK.out _ _ trivial (xno (by kernel_rfl)) ?_
      clear hK K hrun T0 D4 H4 HA hbn
      try simp only [Act.put, List.setIfInBounds_toArray, List.set_cons_zero, List.set_cons_succ]
      refine wpAnyX_on _ _ _ _ (by kernel_rfl) ?_
      refine takeW 9 73 _ rfl rfl trivial ?_
      try simp only [Act.put, List.setIfInBounds_toArray, List.set_cons_zero, List.set_cons_succ]
      refine wpAnyH_ready (rs := [10]) (by kernel_rfl) (by simp) (AllReadyH.cons rfl (fun K hK => readyU (by rfl) rfl (run_u (put_cell 27 (.slice (some ⟨g4, 0, none⟩) (y.cl + 1) cp) X4 (by show 7 < 8; decide) (by kernel_rfl) rfl)) ?_) AllReadyH.nil)
      refine hK.out _ _ trivial (fun _ => ?_)
      clear hK K X4
      try simp only [Act.put, List.setIfInBounds_toArray, List.set_cons_zero, List.set_cons_succ]
      refine wpAnyH_done (by kernel_rfl) ?_ _
      go_wp2_with fail
      go_meet
      exact ⟨⟨y.qa, y.ql, y.qc, y.aa, y.al, y.ac, y.ma, y.ml, y.mc, some ⟨g4, 0, none⟩, y.cl + 1, cp⟩, ⟨s.qs, s.clock, s.epoch, s.next, s.serial, s.apps, s.ms, s.cs ++ [⟨900, 1000 + x3, [109, 49], 1, 0⟩]⟩, hs, hide (unhide D5).x, hide (DrS.of (unhide H5) hgl ((unhide SM).fit (by decide) (by decide) (by decide)) (unhide SM).wf), hide (unhide D5).c, hide (unhide D5).r⟩
    · have n0 : ¬ x7 = 0 := by omega
      have n1 : ¬ x7 = 1 := by omega
      have n2 : ¬ x7 = 2 := by omega
      have n3 : ¬ x7 = 3 := by omega
      have n4 : ¬ x7 = 4 := by omega
      have n5 : ¬ x7 = 5 := by omega
      have n6 : ¬ x7 = 6 := by omega
      go_wp2_with fail
      go_meet
      exact ⟨y, s, hs, hide (unhide D3).x, hide (DrS.of (unhide H3) hgl (unhide HF) (unhide HWF)), hide (unhide D3).c, hide (unhide D3).r⟩
  case rest =>
    clear D3 H3 HF HWF HCL HSM
    obtain ⟨y, s, hs, HX, HD, HC, HR⟩ := hcut
    have HZ := hide (show Blk wc w.heap.size (svc ⟨none, 0, 0, none, 0, 0, none, 0, 0, none, 0, 0⟩ ⟨[], 0, 0, 0, 0, [], [], []⟩) 29 from unhide HR)
    go_upto_region 20 with fail
    refine wp_region_lit ?_
    refine wpList_same (v := .agg (svc y s)) (d := some 74) rfl rfl (run_v (state_load (unhide HX) rfl)) ?_
    try simp only [Act.put, List.setIfInBounds_toArray, List.set_cons_zero, List.set_cons_succ]
    refine wpList_none (d := none) rfl rfl (run_u (blk_store 29 (arr := svc y s) (unhide HR) (by kernel_rfl) rfl (by kernel_rfl))) ?_
    try simp only [Act.put]
    have RR := hide (blk_rw (unhide HR) (svc y s))
    have MM := mks_rw (unhide HR) (svc y s) rfl
    have H9 := hide ((unhide HD).mkb MM (unhide HZ))
    have C9 := (unhide HC).mks MM (fun k e => by subst e; omega)
    have C8 := hide ((unhide HW).step C9.1 C9.2.2.1)
    clear MM C9 HX HD HC HR HZ HW
    generalize World.setRow wc w.heap.size (svc y s) = W9 at RR H9 C8 ⊢
    have z0 := (unhide RR).at 0; have z1 := (unhide RR).at 1; have z2 := (unhide RR).at 2; have z3 := (unhide RR).at 3; have z4 := (unhide RR).at 4; have z5 := (unhide RR).at 5; have z6 := (unhide RR).at 6; have z7 := (unhide RR).at 7
    simp at z0 z1 z2 z3 z4 z5 z6 z7
    go_wp2
    refine bodyPost_ret (v := sv y s) (by simp [results, Tryz.results33, go_sem, z0, z1, z2, z3, z4, z5, z6, z7]) rfl ?_
    exact ⟨y, s, hs, rfl, H9, C8⟩
end Go.Proofs.YtcplnodfcchdhaaGreat

/-
  Rows of whole numbers: whether one is among them, by the model and by the library; rows that a call gathers; walks over the dump.
-/
namespace Go.Proofs.YtcplnodfcchdhaaGreat
open Go.RowKit
set_option linter.unusedVariables false
def IRow (w : World) (ao : Option Addr) (len : Nat) (l : List Int) : Prop :=
  len = l.length ∧ (len = 0 ∨ ∃ b off, ao = some ⟨b, off, none⟩ ∧ ∀ i (h : i < l.length), w.cell? ⟨b, off + i, none⟩ = some (.int .i64 l[i]))
theorem IRow.below {w w' : World} {ao : Option Addr} {len : Nat} {l : List Int} (h : IRow w ao len l) (hb : Below w.heap.size w w') : IRow w' ao len l := by
  obtain ⟨h1, h2⟩ := h
  refine ⟨h1, ?_⟩
  rcases h2 with h2 | ⟨b, off, h3, h4⟩
  · exact .inl h2
  · exact .inr ⟨b, off, h3, fun i h => (hb.cell (cell_lt (h4 i h))).trans (h4 i h)⟩
theorem IRow.at {w : World} {ao : Option Addr} {len : Nat} {l : List Int} (h : IRow w ao len l) {i : Nat} (hi : i < len) : ∃ b off, ao = some ⟨b, off, none⟩ ∧ ∀ (h : i < l.length), w.cell? ⟨b, off + i, none⟩ = some (.int .i64 l[i]) := by
  obtain ⟨h1, h2⟩ := h
  rcases h2 with h2 | ⟨b, off, h3, h4⟩
  · omega
  · exact ⟨b, off, h3, fun hi => h4 i hi⟩
theorem Tryz.infoI : (Tryz.prog.info? 3).map (fun i => (i.zero, i.size, i.bytes)) = some (some (.int .i64 0), 1, 8) := by kernel_rfl
end Go.Proofs.YtcplnodfcchdhaaGreat

/-
  What FnTake draws: a state with numbers, with an application, with a machine; whether a number is among some, by the law.
-/
namespace Go.Proofs.YtcplnodfcchdhaaGreat
open Go.RowKit
set_option linter.unusedVariables false
set_option linter.unusedSimpArgs false
/-- a drawn state, to those who only read it -/
structure DrU (w : World) (y : Sls) (s : St) (hs : List AV) : Prop where
  row : SRow w y s
  av : AVRow w y.aa y.al hs
  hd : Heads w hs s.apps
  sm : SSome y hs
  cap : y.ql ≤ y.qc
  fit : FitSt s
  wf : WfSt s
theorem DrS.use {g : Nat} {w : World} {y : Sls} {s : St} {hs : List AV} (h : DrS g w y s hs) : DrU w y s hs := ⟨h.row, h.av, h.hd, h.sm, h.cap, h.fit, h.wf⟩
theorem DrU.below {w w' : World} {y : Sls} {s : St} {hs : List AV} (h : DrU w y s hs) (hb : Below w.heap.size w w') : DrU w' y s hs := ⟨h.row.below hb, h.av.below hb, h.hd.below hb, h.sm, h.cap, h.fit, h.wf⟩

set_option maxRecDepth 100000 in
set_option maxHeartbeats 1000000 in
theorem node_st {w0 : World} {B g : Nat} {ao : Option Addr} {len cap : Nat} (w : World) (h : CSt w0 B g ao len cap w) :
    Calls Tryz.prog 34 #[.pointer (some ⟨g, 0, none⟩)] w fun e w' => ∃ l : List UInt8, e = .returned (.string (bs l)) ∧ l.length ≤ 12 ∧ CSt w0 B g ao len cap w' := by
  have HS := hide h
  have hgl := h.1.lt
  have hq := hide (pickt_alloc w 9 [⟨#[109, 49]⟩, ⟨#[109, 50]⟩, ⟨#[109, 51]⟩, ⟨#[110, 111, 110, 101]⟩, ⟨#[109, 49]⟩] (by decide))
  clear h
  go_enter Tryz.func34, Tryz.ntmps34
  go_wp2_with fail
  refine (pickS_st w.heap.size 5 5 _ ((unhide HS).alloc _) (unhide hq) (by omega) (by decide) (by decide)).mono ?_
  rintro e w1 ⟨sq, rfl, hsq, hc⟩
  obtain ⟨l, rfl⟩ : ∃ l, sq = bs l := ⟨_, (bs_bk _).symm⟩
  rw [bs_size] at hsq
  have HC := hide hc
  clear hc HS hq
  go_wp2
  go_ret
  exact ⟨l, rfl, hsq, unhide HC⟩

end Go.Proofs.YtcplnodfcchdhaaGreat
