/-
  Several texts of this claim in one: DrJ, DrK, AppN (pack.py put them together); each says in its own remark what is proved.
-/
import Derived.Test.YtcplnodfcchdhaaGreatPackAA
import Derived.Test.YtcplnodfcchdhaaGreatPackH
import Derived.Test.YtcplnodfcchdhaaGreatPackA
import Derived.Laws.AppendOwnNone
import Derived.Laws.AppendOwn
/-
  What FnState draws: a state with an application, with a machine, with a queue.
-/
namespace Go.Proofs.YtcplnodfcchdhaaGreat
open Go.RowKit
set_option linter.unusedVariables false
set_option linter.unusedSimpArgs false
set_option maxRecDepth 100000 in
set_option maxHeartbeats 1000000 in
theorem queue_st {w0 : World} {B g : Nat} {ao : Option Addr} {len cap : Nat} (w : World) (h : CSt w0 B g ao len cap w) :
    Calls Tryz.prog 39 #[.pointer (some ⟨g, 0, none⟩)] w fun e w' => ∃ l : List UInt8, e = .returned (.string (bs l)) ∧ l.length ≤ 12 ∧ CSt w0 B g ao len cap w' := by
  have HS := hide h
  have hgl := h.1.lt
  have hq := hide (pickt_alloc w 9 [⟨#[114, 111, 111, 116]⟩, ⟨#[97]⟩, ⟨#[98]⟩, ⟨#[98, 49]⟩, ⟨#[98, 50]⟩, ⟨#[110, 111, 110, 101]⟩, ⟨#[97]⟩] (by decide))
  clear h
  go_enter Tryz.func39, Tryz.ntmps39
  go_wp2_with fail
  refine (pickS_st w.heap.size 7 7 _ ((unhide HS).alloc _) (unhide hq) (by omega) (by decide) (by decide)).mono ?_
  rintro e w1 ⟨sq, rfl, hsq, hc⟩
  obtain ⟨l, rfl⟩ : ∃ l, sq = bs l := ⟨_, (bs_bk _).symm⟩
  rw [bs_size] at hsq
  have HC := hide hc
  clear hc HS hq
  go_wp2
  go_ret
  exact ⟨l, rfl, hsq, unhide HC⟩

set_option maxRecDepth 100000 in
set_option maxHeartbeats 4000000 in
theorem drawAppOf_any (B : Nat) (ao : Option Addr) (len cap : Nat) (w : World) (hcode : Code w B ao len) :
    Calls Tryz.prog 10 #[.slice ao len cap] w fun e w' => ∃ y s hs x, e = .returned (.tuple #[sv y s, .int .i64 x]) ∧ Hid (DrU w' y s hs) ∧ (0 ≤ x ∧ x ≤ 100000) ∧ Hid (Below w.heap.size w w') := by
  have b0 := below_al (Below.refl _ w) (.cells #[.slice none 0 0, .int .i64 0, .int .i64 0, .int .i64 0, .int .i64 0, .slice none 0 0, .slice none 0 0, .slice none 0 0] 29)
  have HK := hide (hcode.below (B' := w.heap.size) (below_al (Below.refl _ w) (.cells #[.slice none 0 0, .int .i64 0, .int .i64 0, .int .i64 0, .int .i64 0, .slice none 0 0, .slice none 0 0, .slice none 0 0] 29)) hcode.1)
  have R0 := hide (blk_new w #[.slice none 0 0, .int .i64 0, .int .i64 0, .int .i64 0, .int .i64 0, .slice none 0 0, .slice none 0 0, .slice none 0 0] 29)
  have HB0 := hide b0
  clear hcode b0
  go_enter Tryz.func10, Tryz.ntmps10
  go_wp2_with fail
  refine (new_st B ao len cap _ (unhide HK)).mono ?_
  rintro e w2 ⟨rfl, hc2⟩
  rw [al_size] at hc2 ⊢
  obtain ⟨w1, hw1⟩ : ∃ w1, w.alloc (.cells #[.slice none 0 0, .int .i64 0, .int .i64 0, .int .i64 0, .int .i64 0, .slice none 0 0, .slice none 0 0, .slice none 0 0] 29) = w1 := ⟨_, rfl⟩
  have hz1 : w1.heap.size = w.heap.size + 1 := by rw [← hw1, al_size]
  rw [hw1] at hc2 R0 HB0
  have C2 := hide hc2
  have R2 := hide (show Blk w2 w.heap.size #[.slice none 0 0, .int .i64 0, .int .i64 0, .int .i64 0, .int .i64 0, .slice none 0 0, .slice none 0 0, .slice none 0 0] 29 from (hc2.2.2.1.block w.heap.size (by omega) (fun e => by simp at e)).trans (unhide R0))
  clear hc2 HK hw1 R0
  go_wp2_with fail
  refine (spoilt_st _ (unhide C2).rebase).mono ?_
  rintro e w3 ⟨y, s, hs, rfl, hd, hc3⟩
  have C3 := hide ((unhide C2).step (unhide hc3).1 (unhide hc3).2.2.1)
  have R3 := hide ((cur_mks (unhide C2).1 (unhide hc3).1 (unhide hc3).2.2.1).blk (unhide R2) (by omega))
  have b4 := below_al (Below.refl _ w3) (.cells (svc y s) 29)
  have C4 := hide ((unhide C3).below b4)
  have R4 := hide ((unhide R3).below b4)
  have D4 := hide ((unhide hd).below b4)
  have X4 := hide (blk_new w3 (svc y s) 29)
  have hz3 : w.heap.size + 1 < w3.heap.size := (unhide C3).1.lt
  clear hd hc3 C2 C3 R2 R3 b4
  go_upto_region 3 with fail
  generalize w3.alloc (.cells (svc y s) 29) = w4 at C4 R4 D4 X4 ⊢
  generalize w3.heap.size = b at X4 hz3 ⊢
  refine wp_region_held_drew (S := fun wx => Blk wx b (svc y s) 29) (by kernel_rfl) ((unhide X4).drew) (fun S0 => ?_)
  have C5 := hide ((unhide C4).below (Below.refl _ w4).drew)
  have R5 := hide ((unhide R4).below (Below.refl _ w4).drew)
  have D5 := hide ((unhide D4).below (Below.refl _ w4).drew)
  clear C4 R4 D4 X4
  generalize w4.drew = wn at S0 C5 R5 D5 ⊢
  refine takeW 0 10 (sv y s) rfl rfl S0 ?_ (hy := Or.inl ⟨by rfl, fun wz hz => run_v (state_load hz rfl)⟩)
  try simp only [Act.put, List.setIfInBounds_toArray, List.set_cons_zero, List.set_cons_succ]
  refine takeW 1 11 _ rfl rfl S0 ?_
  try simp only [Act.put, List.setIfInBounds_toArray, List.set_cons_zero, List.set_cons_succ]
  refine wpAnyH_ready (rs := [2]) (by kernel_rfl) (by simp) (AllReadyH.cons rfl (fun K hK => ?_) AllReadyH.nil)
  go_simp
  refine (below_st 6 _ (unhide C5).rebase (by decide) (by decide)).mono ?_
  rintro e wm ⟨x, rfl, hx0, hx1, hcm, _⟩
  have hm := cur_mks (unhide C5).1 hcm.1 hcm.2.2.1
  have S1 := hm.blk S0 (by omega)
  have C6 := hide ((unhide C5).step hcm.1 hcm.2.2.1)
  have R6 := hide (hm.blk (unhide R5) (by omega))
  have D6 := hide ((unhide D5).cur (unhide C5).1 hcm.1 hcm.2.2.1)
  clear S0 hcm hm C5 R5 D5
  go_wp2_with fail
  refine hK.out _ _ S1 (fun S0 => ?_)
  clear hK K S1
  try simp only [Act.put, List.setIfInBounds_toArray, List.set_cons_zero, List.set_cons_succ]
  refine takeW 3 13 (.int .i64 (1000 + x)) rfl rfl S0 ?_ (hy := Or.inl ⟨by rfl, fun wz hz => by (go_simp; rw [IntKind.wrap_i64]; omega)⟩)
  try simp only [Act.put, List.setIfInBounds_toArray, List.set_cons_zero, List.set_cons_succ]
  have HZ := hide (show Blk wm w.heap.size (svc ⟨none, 0, 0, none, 0, 0, none, 0, 0, none, 0, 0⟩ ⟨[], 0, 0, 0, 0, [], [], []⟩) 29 from unhide R6)
  have MM := mks_rw (unhide R6) (svc y s) rfl
  have S1 := MM.blk S0 (by omega)
  have RR := hide (blk_rw (unhide R6) (svc y s))
  have D7 := hide ((unhide D6).mkb MM (unhide HZ)).use
  have B7 := hide (show Below w.heap.size w _ from ((unhide HB0).trans (((unhide C6).done (by omega)).mono (by omega))).trans (MM.below (fun k e => by subst e; exact Nat.le_refl _) (by have := (unhide C6).2.2.1.size; omega)))
  refine wpAnyH_ready (rs := [4]) (by kernel_rfl) (by simp) (AllReadyH.cons rfl (fun K hK => readyU (by rfl) rfl (run_u (blk_store 29 (arr := svc y s) (unhide R6) (by kernel_rfl) rfl (by kernel_rfl))) ?_) AllReadyH.nil)
  refine hK.out _ _ S1 (fun S0 => ?_)
  clear hK K S1
  try simp only [Act.put, List.setIfInBounds_toArray, List.set_cons_zero, List.set_cons_succ]
  refine takeW 5 3 _ rfl rfl S0 ?_
  try simp only [Act.put, List.setIfInBounds_toArray, List.set_cons_zero, List.set_cons_succ]
  refine wpAnyH_done (by kernel_rfl) ?_ _
  clear MM HZ R6 C6 D6 S0
  generalize World.setRow wm w.heap.size (svc y s) = W9 at RR D7 B7 ⊢
  have z0 := (unhide RR).at 0; have z1 := (unhide RR).at 1; have z2 := (unhide RR).at 2; have z3 := (unhide RR).at 3; have z4 := (unhide RR).at 4; have z5 := (unhide RR).at 5; have z6 := (unhide RR).at 6; have z7 := (unhide RR).at 7
  simp at z0 z1 z2 z3 z4 z5 z6 z7
  go_wp2
  refine bodyPost_ret (v := .tuple #[sv y s, .int .i64 (1000 + x)]) (by simp [results, Tryz.results10, go_sem, z0, z1, z2, z3, z4, z5, z6, z7]) rfl ?_
  exact ⟨y, s, hs, 1000 + x, rfl, D7, ⟨by omega, by omega⟩, B7⟩

set_option maxRecDepth 100000 in
set_option maxHeartbeats 4000000 in
theorem drawFreeOn_any (B : Nat) (ao : Option Addr) (len cap : Nat) (w : World) (hcode : Code w B ao len) :
    Calls Tryz.prog 5 #[.slice ao len cap] w fun e w' => ∃ y s hs l, e = .returned (.tuple #[sv y s, .string (bs l)]) ∧ Hid (DrU w' y s hs) ∧ l.length ≤ 12 ∧ Hid (Below w.heap.size w w') := by
  have b0 := below_al (Below.refl _ w) (.cells #[.slice none 0 0, .int .i64 0, .int .i64 0, .int .i64 0, .int .i64 0, .slice none 0 0, .slice none 0 0, .slice none 0 0] 29)
  have HK := hide (hcode.below (B' := w.heap.size) (below_al (Below.refl _ w) (.cells #[.slice none 0 0, .int .i64 0, .int .i64 0, .int .i64 0, .int .i64 0, .slice none 0 0, .slice none 0 0, .slice none 0 0] 29)) hcode.1)
  have R0 := hide (blk_new w #[.slice none 0 0, .int .i64 0, .int .i64 0, .int .i64 0, .int .i64 0, .slice none 0 0, .slice none 0 0, .slice none 0 0] 29)
  have HB0 := hide b0
  clear hcode b0
  go_enter Tryz.func5, Tryz.ntmps5
  go_wp2_with fail
  refine (new_st B ao len cap _ (unhide HK)).mono ?_
  rintro e w2 ⟨rfl, hc2⟩
  rw [al_size] at hc2 ⊢
  obtain ⟨w1, hw1⟩ : ∃ w1, w.alloc (.cells #[.slice none 0 0, .int .i64 0, .int .i64 0, .int .i64 0, .int .i64 0, .slice none 0 0, .slice none 0 0, .slice none 0 0] 29) = w1 := ⟨_, rfl⟩
  have hz1 : w1.heap.size = w.heap.size + 1 := by rw [← hw1, al_size]
  rw [hw1] at hc2 R0 HB0
  have C2 := hide hc2
  have R2 := hide (show Blk w2 w.heap.size #[.slice none 0 0, .int .i64 0, .int .i64 0, .int .i64 0, .int .i64 0, .slice none 0 0, .slice none 0 0, .slice none 0 0] 29 from (hc2.2.2.1.block w.heap.size (by omega) (fun e => by simp at e)).trans (unhide R0))
  clear hc2 HK hw1 R0
  go_wp2_with fail
  refine (spoilt_st _ (unhide C2).rebase).mono ?_
  rintro e w3 ⟨y, s, hs, rfl, hd, hc3⟩
  have C3 := hide ((unhide C2).step (unhide hc3).1 (unhide hc3).2.2.1)
  have R3 := hide ((cur_mks (unhide C2).1 (unhide hc3).1 (unhide hc3).2.2.1).blk (unhide R2) (by omega))
  have b4 := below_al (Below.refl _ w3) (.cells (svc y s) 29)
  have C4 := hide ((unhide C3).below b4)
  have R4 := hide ((unhide R3).below b4)
  have D4 := hide ((unhide hd).below b4)
  have X4 := hide (blk_new w3 (svc y s) 29)
  have hz3 : w.heap.size + 1 < w3.heap.size := (unhide C3).1.lt
  clear hd hc3 C2 C3 R2 R3 b4
  go_upto_region 3 with fail
  generalize w3.alloc (.cells (svc y s) 29) = w4 at C4 R4 D4 X4 ⊢
  generalize w3.heap.size = b at X4 hz3 ⊢
  refine wp_region_held_drew (S := fun wx => Blk wx b (svc y s) 29) (by kernel_rfl) ((unhide X4).drew) (fun S0 => ?_)
  have C5 := hide ((unhide C4).below (Below.refl _ w4).drew)
  have R5 := hide ((unhide R4).below (Below.refl _ w4).drew)
  have D5 := hide ((unhide D4).below (Below.refl _ w4).drew)
  clear C4 R4 D4 X4
  generalize w4.drew = wn at S0 C5 R5 D5 ⊢
  refine takeW 0 10 (sv y s) rfl rfl S0 ?_ (hy := Or.inl ⟨by rfl, fun wz hz => run_v (state_load hz rfl)⟩)
  try simp only [Act.put, List.setIfInBounds_toArray, List.set_cons_zero, List.set_cons_succ]
  refine takeW 1 11 _ rfl rfl S0 ?_
  try simp only [Act.put, List.setIfInBounds_toArray, List.set_cons_zero, List.set_cons_succ]
  refine wpAnyH_ready (rs := [2]) (by kernel_rfl) (by simp) (AllReadyH.cons rfl (fun K hK => ?_) AllReadyH.nil)
  go_simp
  refine (node_st _ (unhide C5).rebase).mono ?_
  rintro e wm ⟨l, rfl, hx0, hcm⟩
  have hm := cur_mks (unhide C5).1 hcm.1 hcm.2.2.1
  have S1 := hm.blk S0 (by omega)
  have C6 := hide ((unhide C5).step hcm.1 hcm.2.2.1)
  have R6 := hide (hm.blk (unhide R5) (by omega))
  have D6 := hide ((unhide D5).cur (unhide C5).1 hcm.1 hcm.2.2.1)
  clear S0 hcm hm C5 R5 D5
  go_wp2_with fail
  refine hK.out _ _ S1 (fun S0 => ?_)
  clear hK K S1
  try simp only [Act.put, List.setIfInBounds_toArray, List.set_cons_zero, List.set_cons_succ]
  have HZ := hide (show Blk wm w.heap.size (svc ⟨none, 0, 0, none, 0, 0, none, 0, 0, none, 0, 0⟩ ⟨[], 0, 0, 0, 0, [], [], []⟩) 29 from unhide R6)
  have MM := mks_rw (unhide R6) (svc y s) rfl
  have S1 := MM.blk S0 (by omega)
  have RR := hide (blk_rw (unhide R6) (svc y s))
  have D7 := hide ((unhide D6).mkb MM (unhide HZ)).use
  have B7 := hide (show Below w.heap.size w _ from ((unhide HB0).trans (((unhide C6).done (by omega)).mono (by omega))).trans (MM.below (fun k e => by subst e; exact Nat.le_refl _) (by have := (unhide C6).2.2.1.size; omega)))
  refine wpAnyH_ready (rs := [3]) (by kernel_rfl) (by simp) (AllReadyH.cons rfl (fun K hK => readyU (by rfl) rfl (run_u (blk_store 29 (arr := svc y s) (unhide R6) (by kernel_rfl) rfl (by kernel_rfl))) ?_) AllReadyH.nil)
  refine hK.out _ _ S1 (fun S0 => ?_)
  clear hK K S1
  try simp only [Act.put, List.setIfInBounds_toArray, List.set_cons_zero, List.set_cons_succ]
  refine takeW 4 3 _ rfl rfl S0 ?_
  try simp only [Act.put, List.setIfInBounds_toArray, List.set_cons_zero, List.set_cons_succ]
  refine wpAnyH_done (by kernel_rfl) ?_ _
  clear MM HZ R6 C6 D6 S0
  generalize World.setRow wm w.heap.size (svc y s) = W9 at RR D7 B7 ⊢
  have z0 := (unhide RR).at 0; have z1 := (unhide RR).at 1; have z2 := (unhide RR).at 2; have z3 := (unhide RR).at 3; have z4 := (unhide RR).at 4; have z5 := (unhide RR).at 5; have z6 := (unhide RR).at 6; have z7 := (unhide RR).at 7
  simp at z0 z1 z2 z3 z4 z5 z6 z7
  go_wp2
  refine bodyPost_ret (v := .tuple #[sv y s, .string (bs l)]) (by simp [results, Tryz.results5, go_sem, z0, z1, z2, z3, z4, z5, z6, z7]) rfl ?_
  exact ⟨y, s, hs, l, rfl, D7, hx0, B7⟩

set_option maxRecDepth 100000 in
set_option maxHeartbeats 4000000 in
theorem drawUsedBy_any (B : Nat) (ao : Option Addr) (len cap : Nat) (w : World) (hcode : Code w B ao len) :
    Calls Tryz.prog 8 #[.slice ao len cap] w fun e w' => ∃ y s hs l, e = .returned (.tuple #[sv y s, .string (bs l)]) ∧ Hid (DrU w' y s hs) ∧ l.length ≤ 12 ∧ Hid (Below w.heap.size w w') := by
  have b0 := below_al (Below.refl _ w) (.cells #[.slice none 0 0, .int .i64 0, .int .i64 0, .int .i64 0, .int .i64 0, .slice none 0 0, .slice none 0 0, .slice none 0 0] 29)
  have HK := hide (hcode.below (B' := w.heap.size) (below_al (Below.refl _ w) (.cells #[.slice none 0 0, .int .i64 0, .int .i64 0, .int .i64 0, .int .i64 0, .slice none 0 0, .slice none 0 0, .slice none 0 0] 29)) hcode.1)
  have R0 := hide (blk_new w #[.slice none 0 0, .int .i64 0, .int .i64 0, .int .i64 0, .int .i64 0, .slice none 0 0, .slice none 0 0, .slice none 0 0] 29)
  have HB0 := hide b0
  clear hcode b0
  go_enter Tryz.func8, Tryz.ntmps8
  go_wp2_with fail
  refine (new_st B ao len cap _ (unhide HK)).mono ?_
  rintro e w2 ⟨rfl, hc2⟩
  rw [al_size] at hc2 ⊢
  obtain ⟨w1, hw1⟩ : ∃ w1, w.alloc (.cells #[.slice none 0 0, .int .i64 0, .int .i64 0, .int .i64 0, .int .i64 0, .slice none 0 0, .slice none 0 0, .slice none 0 0] 29) = w1 := ⟨_, rfl⟩
  have hz1 : w1.heap.size = w.heap.size + 1 := by rw [← hw1, al_size]
  rw [hw1] at hc2 R0 HB0
  have C2 := hide hc2
  have R2 := hide (show Blk w2 w.heap.size #[.slice none 0 0, .int .i64 0, .int .i64 0, .int .i64 0, .int .i64 0, .slice none 0 0, .slice none 0 0, .slice none 0 0] 29 from (hc2.2.2.1.block w.heap.size (by omega) (fun e => by simp at e)).trans (unhide R0))
  clear hc2 HK hw1 R0
  go_wp2_with fail
  refine (spoilt_st _ (unhide C2).rebase).mono ?_
  rintro e w3 ⟨y, s, hs, rfl, hd, hc3⟩
  have C3 := hide ((unhide C2).step (unhide hc3).1 (unhide hc3).2.2.1)
  have R3 := hide ((cur_mks (unhide C2).1 (unhide hc3).1 (unhide hc3).2.2.1).blk (unhide R2) (by omega))
  have b4 := below_al (Below.refl _ w3) (.cells (svc y s) 29)
  have C4 := hide ((unhide C3).below b4)
  have R4 := hide ((unhide R3).below b4)
  have D4 := hide ((unhide hd).below b4)
  have X4 := hide (blk_new w3 (svc y s) 29)
  have hz3 : w.heap.size + 1 < w3.heap.size := (unhide C3).1.lt
  clear hd hc3 C2 C3 R2 R3 b4
  go_upto_region 3 with fail
  generalize w3.alloc (.cells (svc y s) 29) = w4 at C4 R4 D4 X4 ⊢
  generalize w3.heap.size = b at X4 hz3 ⊢
  refine wp_region_held_drew (S := fun wx => Blk wx b (svc y s) 29) (by kernel_rfl) ((unhide X4).drew) (fun S0 => ?_)
  have C5 := hide ((unhide C4).below (Below.refl _ w4).drew)
  have R5 := hide ((unhide R4).below (Below.refl _ w4).drew)
  have D5 := hide ((unhide D4).below (Below.refl _ w4).drew)
  clear C4 R4 D4 X4
  generalize w4.drew = wn at S0 C5 R5 D5 ⊢
  refine takeW 0 10 (sv y s) rfl rfl S0 ?_ (hy := Or.inl ⟨by rfl, fun wz hz => run_v (state_load hz rfl)⟩)
  try simp only [Act.put, List.setIfInBounds_toArray, List.set_cons_zero, List.set_cons_succ]
  refine takeW 1 11 _ rfl rfl S0 ?_
  try simp only [Act.put, List.setIfInBounds_toArray, List.set_cons_zero, List.set_cons_succ]
  refine wpAnyH_ready (rs := [2]) (by kernel_rfl) (by simp) (AllReadyH.cons rfl (fun K hK => ?_) AllReadyH.nil)
  go_simp
  refine (queue_st _ (unhide C5).rebase).mono ?_
  rintro e wm ⟨l, rfl, hx0, hcm⟩
  have hm := cur_mks (unhide C5).1 hcm.1 hcm.2.2.1
  have S1 := hm.blk S0 (by omega)
  have C6 := hide ((unhide C5).step hcm.1 hcm.2.2.1)
  have R6 := hide (hm.blk (unhide R5) (by omega))
  have D6 := hide ((unhide D5).cur (unhide C5).1 hcm.1 hcm.2.2.1)
  clear S0 hcm hm C5 R5 D5
  go_wp2_with fail
  refine hK.out _ _ S1 (fun S0 => ?_)
  clear hK K S1
  try simp only [Act.put, List.setIfInBounds_toArray, List.set_cons_zero, List.set_cons_succ]
  have HZ := hide (show Blk wm w.heap.size (svc ⟨none, 0, 0, none, 0, 0, none, 0, 0, none, 0, 0⟩ ⟨[], 0, 0, 0, 0, [], [], []⟩) 29 from unhide R6)
  have MM := mks_rw (unhide R6) (svc y s) rfl
  have S1 := MM.blk S0 (by omega)
  have RR := hide (blk_rw (unhide R6) (svc y s))
  have D7 := hide ((unhide D6).mkb MM (unhide HZ)).use
  have B7 := hide (show Below w.heap.size w _ from ((unhide HB0).trans (((unhide C6).done (by omega)).mono (by omega))).trans (MM.below (fun k e => by subst e; exact Nat.le_refl _) (by have := (unhide C6).2.2.1.size; omega)))
  refine wpAnyH_ready (rs := [3]) (by kernel_rfl) (by simp) (AllReadyH.cons rfl (fun K hK => readyU (by rfl) rfl (run_u (blk_store 29 (arr := svc y s) (unhide R6) (by kernel_rfl) rfl (by kernel_rfl))) ?_) AllReadyH.nil)
  refine hK.out _ _ S1 (fun S0 => ?_)
  clear hK K S1
  try simp only [Act.put, List.setIfInBounds_toArray, List.set_cons_zero, List.set_cons_succ]
  refine takeW 4 3 _ rfl rfl S0 ?_
  try simp only [Act.put, List.setIfInBounds_toArray, List.set_cons_zero, List.set_cons_succ]
  refine wpAnyH_done (by kernel_rfl) ?_ _
  clear MM HZ R6 C6 D6 S0
  generalize World.setRow wm w.heap.size (svc y s) = W9 at RR D7 B7 ⊢
  have z0 := (unhide RR).at 0; have z1 := (unhide RR).at 1; have z2 := (unhide RR).at 2; have z3 := (unhide RR).at 3; have z4 := (unhide RR).at 4; have z5 := (unhide RR).at 5; have z6 := (unhide RR).at 6; have z7 := (unhide RR).at 7
  simp at z0 z1 z2 z3 z4 z5 z6 z7
  go_wp2
  refine bodyPost_ret (v := .tuple #[sv y s, .string (bs l)]) (by simp [results, Tryz.results8, go_sem, z0, z1, z2, z3, z4, z5, z6, z7]) rfl ?_
  exact ⟨y, s, hs, l, rfl, D7, hx0, B7⟩
end Go.Proofs.YtcplnodfcchdhaaGreat

/-
  What FnState draws besides: a state with a queue and an amount; a list of queues.
-/
namespace Go.Proofs.YtcplnodfcchdhaaGreat
open Go.RowKit
set_option linter.unusedVariables false
set_option linter.unusedSimpArgs false

theorem DrS.mkl {g b : Nat} {w w' : World} {y : Sls} {s : St} {hs : List AV} (h : DrS g w y s hs) (hm : Mks (fun k => k = b) w w') (hb : b ≤ g) : DrS g w' y s hs := by
  have ho := off_low (w := w) (B := g + 1) (g := b) (Nat.lt_succ_of_le hb)
  exact ⟨h.q.mks hm (fun k hk e => by have := h.qg k hk; omega), h.qg, h.p.off hm ho.p, h.k.off hm ho.a, h.m.off hm ho.m, h.c.off hm ho.c, h.cap, h.sm, h.fit, h.wf⟩

set_option maxRecDepth 100000 in
set_option maxHeartbeats 4000000 in
theorem drawRoom_any (B : Nat) (ao : Option Addr) (len cap : Nat) (w : World) (hcode : Code w B ao len) :
    Calls Tryz.prog 9 #[.slice ao len cap] w fun e w' => ∃ y s hs l rx ry, e = .returned (.tuple #[sv y s, .string (bs l), rv rx ry]) ∧ Hid (DrU w' y s hs) ∧ l.length ≤ 12 ∧ Hid (Below w.heap.size w w') := by
  have b0 := below_al (below_al (Below.refl _ w) (.cells #[.slice none 0 0, .int .i64 0, .int .i64 0, .int .i64 0, .int .i64 0, .slice none 0 0, .slice none 0 0, .slice none 0 0] 29)) (.cells #[.int .i64 0, .int .i64 0] 33)
  have HK := hide (hcode.below (B' := w.heap.size) b0 hcode.1)
  have R0 := hide ((blk_new w #[.slice none 0 0, .int .i64 0, .int .i64 0, .int .i64 0, .int .i64 0, .slice none 0 0, .slice none 0 0, .slice none 0 0] 29).al (.cells #[.int .i64 0, .int .i64 0] 33))
  have V0 := hide (blk_new (w.alloc (.cells #[.slice none 0 0, .int .i64 0, .int .i64 0, .int .i64 0, .int .i64 0, .slice none 0 0, .slice none 0 0, .slice none 0 0] 29)) #[.int .i64 0, .int .i64 0] 33)
  rw [al_size] at V0
  have HB0 := hide b0
  clear hcode b0
  go_enter Tryz.func9, Tryz.ntmps9
  go_wp2_with fail
  refine (new_st B ao len cap _ (unhide HK)).mono ?_
  rintro e w2 ⟨rfl, hc2⟩
  rw [al_size, al_size] at hc2 ⊢
  obtain ⟨w1, hw1⟩ : ∃ w1, (w.alloc (.cells #[.slice none 0 0, .int .i64 0, .int .i64 0, .int .i64 0, .int .i64 0, .slice none 0 0, .slice none 0 0, .slice none 0 0] 29)).alloc (.cells #[.int .i64 0, .int .i64 0] 33) = w1 := ⟨_, rfl⟩
  have hz1 : w1.heap.size = w.heap.size + 1 + 1 := by rw [← hw1, al_size, al_size]
  rw [hw1] at hc2 R0 V0 HB0
  have C2 := hide hc2
  have R2 := hide (show Blk w2 w.heap.size #[.slice none 0 0, .int .i64 0, .int .i64 0, .int .i64 0, .int .i64 0, .slice none 0 0, .slice none 0 0, .slice none 0 0] 29 from (hc2.2.2.1.block w.heap.size (by omega) (fun e => by have := Option.some.inj e; omega)).trans (unhide R0))
  have V2 := hide (show Blk w2 (w.heap.size + 1) #[.int .i64 0, .int .i64 0] 33 from (hc2.2.2.1.block (w.heap.size + 1) (by omega) (fun e => by have := Option.some.inj e; omega)).trans (unhide V0))
  clear hc2 HK hw1 R0 V0
  go_wp2_with fail
  refine (spoilt_st _ (unhide C2).rebase).mono ?_
  rintro e w3 ⟨y, s, hs, rfl, hd, hc3⟩
  have hm := cur_mks (unhide C2).1 (unhide hc3).1 (unhide hc3).2.2.1
  have C3 := hide ((unhide C2).step (unhide hc3).1 (unhide hc3).2.2.1)
  have R3 := hide (hm.blk (unhide R2) (by omega))
  have V3 := hide (hm.blk (unhide V2) (by omega))
  have b4 := below_al (Below.refl _ w3) (.cells (svc y s) 29)
  have C4 := hide ((unhide C3).below b4)
  have R4 := hide ((unhide R3).below b4)
  have V4 := hide ((unhide V3).below b4)
  have D4 := hide ((unhide hd).below b4)
  have X4 := hide (blk_new w3 (svc y s) 29)
  have hz3 : w.heap.size + 1 + 1 < w3.heap.size := (unhide C3).1.lt
  clear hd hc3 hm C2 C3 R2 R3 V2 V3 b4
  go_upto_region 3 with fail
  generalize w3.alloc (.cells (svc y s) 29) = w4 at C4 R4 V4 D4 X4 ⊢
  generalize w3.heap.size = b at X4 hz3 ⊢
  go_wp2_with fail
  refine (queue_st _ (unhide C4).rebase).mono ?_
  rintro e w5 ⟨l, rfl, hl, hcq⟩
  have hm := cur_mks (unhide C4).1 hcq.1 hcq.2.2.1
  have C4b := hide ((unhide C4).step hcq.1 hcq.2.2.1)
  have R4b := hide (hm.blk (unhide R4) (by omega))
  have V4b := hide (hm.blk (unhide V4) (by omega))
  have X4b := hide (hm.blk (unhide X4) (by omega))
  have D4b := hide ((unhide D4).cur (unhide C4).1 hcq.1 hcq.2.2.1)
  clear hcq hm C4 R4 V4 X4 D4
  go_upto_region 4 with fail
  refine wp_region_held_drew (S := fun wx => Blk wx b (svc y s) 29) (by kernel_rfl) ((unhide X4b).drew) (fun S0 => ?_)
  have C5 := hide ((unhide C4b).below (Below.refl _ w5).drew)
  have R5 := hide ((unhide R4b).below (Below.refl _ w5).drew)
  have V5 := hide ((unhide V4b).below (Below.refl _ w5).drew)
  have D5 := hide ((unhide D4b).below (Below.refl _ w5).drew)
  clear C4b R4b V4b D4b X4b
  generalize w5.drew = wn at S0 C5 R5 V5 D5 ⊢
  refine takeW 0 14 (sv y s) rfl rfl S0 ?_ (hy := Or.inl ⟨by rfl, fun wz hz => run_v (state_load hz rfl)⟩)
  try simp only [Act.put, List.setIfInBounds_toArray, List.set_cons_zero, List.set_cons_succ]
  refine takeW 1 15 _ rfl rfl S0 ?_
  try simp only [Act.put, List.setIfInBounds_toArray, List.set_cons_zero, List.set_cons_succ]
  refine takeW 2 16 _ rfl rfl S0 ?_
  try simp only [Act.put, List.setIfInBounds_toArray, List.set_cons_zero, List.set_cons_succ]
  refine wpAnyH_ready (rs := [3]) (by kernel_rfl) (by simp) (AllReadyH.cons rfl (fun K hK => ?_) AllReadyH.nil)
  go_simp
  refine (l02Res_st _ (unhide C5).rebase).mono ?_
  rintro e wm ⟨rx, ry, rfl, _, _, hcm, _⟩
  have hm := cur_mks (unhide C5).1 hcm.1 hcm.2.2.1
  have S1 := hm.blk S0 (by omega)
  have C6 := hide ((unhide C5).step hcm.1 hcm.2.2.1)
  have R6 := hide (hm.blk (unhide R5) (by omega))
  have V6 := hide (hm.blk (unhide V5) (by omega))
  have D6 := hide ((unhide D5).cur (unhide C5).1 hcm.1 hcm.2.2.1)
  clear S0 hcm hm C5 R5 V5 D5
  go_wp2_with fail
  refine hK.out _ _ S1 (fun S0 => ?_)
  clear hK K S1
  try simp only [Act.put, List.setIfInBounds_toArray, List.set_cons_zero, List.set_cons_succ]
  have HZ := hide (show Blk wm w.heap.size (svc ⟨none, 0, 0, none, 0, 0, none, 0, 0, none, 0, 0⟩ ⟨[], 0, 0, 0, 0, [], [], []⟩) 29 from unhide R6)
  have MM := mks_rw (unhide R6) (svc y s) rfl
  have S1 := MM.blk S0 (by omega)
  have RR := hide (blk_rw (unhide R6) (svc y s))
  have D7 := hide ((unhide D6).mkl MM (by omega))
  have B7 := hide (show Below w.heap.size w _ from ((unhide HB0).trans (((unhide C6).done (by omega)).mono (by omega))).trans (MM.below (fun k e => by subst e; exact Nat.le_refl _) (by have := (unhide C6).2.2.1.size; omega)))
  have V7 := hide (MM.blk (unhide V6) (by omega))
  refine wpAnyH_ready (rs := [4]) (by kernel_rfl) (by simp) (AllReadyH.cons rfl (fun K hK => readyU (by rfl) rfl (run_u (blk_store 29 (arr := svc y s) (unhide R6) (by kernel_rfl) rfl (by kernel_rfl))) ?_) AllReadyH.nil)
  refine hK.out _ _ S1 (fun S0 => ?_)
  clear hK K S1
  try simp only [Act.put, List.setIfInBounds_toArray, List.set_cons_zero, List.set_cons_succ]
  clear MM HZ R6 C6 D6 V6
  generalize World.setRow wm w.heap.size (svc y s) = W9 at RR D7 B7 V7 S0 ⊢
  refine takeW 5 3 _ rfl rfl S0 ?_
  try simp only [Act.put, List.setIfInBounds_toArray, List.set_cons_zero, List.set_cons_succ]
  have MM := mks_rw (unhide V7) #[.int .i64 rx, .int .i64 ry] rfl
  have S1 := MM.blk S0 (by omega)
  have VV := hide (blk_rw (unhide V7) #[.int .i64 rx, .int .i64 ry])
  have RS := hide (MM.blk (unhide RR) (by omega))
  have D8 := hide ((unhide D7).mkl MM (by omega)).use
  have B8 := hide (show Below w.heap.size w _ from (unhide B7).trans (MM.below (fun k e => by subst e; omega) (unhide B7).size))
  refine wpAnyH_ready (rs := [6]) (by kernel_rfl) (by simp) (AllReadyH.cons rfl (fun K hK => readyU (by rfl) rfl (run_u (blk_store 33 (arr := #[.int .i64 rx, .int .i64 ry]) (unhide V7) (by kernel_rfl) rfl (by kernel_rfl))) ?_) AllReadyH.nil)
  refine hK.out _ _ S1 (fun S0 => ?_)
  clear hK K S1
  try simp only [Act.put, List.setIfInBounds_toArray, List.set_cons_zero, List.set_cons_succ]
  refine wpAnyH_done (by kernel_rfl) ?_ _
  clear MM RR D7 B7 V7 S0
  generalize World.setRow W9 (w.heap.size + 1) #[.int .i64 rx, .int .i64 ry] = W10 at RS D8 B8 VV ⊢
  have z0 := (unhide RS).at 0; have z1 := (unhide RS).at 1; have z2 := (unhide RS).at 2; have z3 := (unhide RS).at 3; have z4 := (unhide RS).at 4; have z5 := (unhide RS).at 5; have z6 := (unhide RS).at 6; have z7 := (unhide RS).at 7
  have v0 := (unhide VV).at 0; have v1 := (unhide VV).at 1
  simp at z0 z1 z2 z3 z4 z5 z6 z7 v0 v1
  go_wp2
  refine bodyPost_ret (v := .tuple #[sv y s, .string (bs l), rv rx ry]) (by simp [results, Tryz.results9, go_sem, z0, z1, z2, z3, z4, z5, z6, z7, v0, v1]) rfl ?_
  exact ⟨y, s, hs, l, rx, ry, rfl, D8, hl, B8⟩

set_option maxRecDepth 100000 in
set_option maxHeartbeats 1000000 in
theorem drawStateNew_any (B : Nat) (ao : Option Addr) (len cap : Nat) (w : World) (hcode : Code w B ao len) :
    Calls Tryz.prog 13 #[.slice ao len cap] w fun e w' => ∃ qb n c ls, e = .returned (.slice (some ⟨qb, 0, none⟩) n c) ∧ Hid (QRow w' (some ⟨qb, 0, none⟩) n ls) ∧ n ≤ c ∧ n ≤ 1000 ∧ Hid (Brief ls) ∧ Hid (Below w.heap.size w w') := by
  have HK := hide (hcode.below (B' := w.heap.size) (Below.refl _ w) hcode.1)
  clear hcode
  go_enter Tryz.func13, Tryz.ntmps13
  go_wp2_with fail
  refine (new_st B ao len cap _ (unhide HK)).mono ?_
  rintro e w2 ⟨rfl, hc2⟩
  have C2 := hide hc2
  clear hc2 HK
  go_wp2_with fail
  refine (queues_st _ (unhide C2)).mono ?_
  rintro e w3 ⟨qb, n, c, ls, rfl, hq, -, hnc, hn, hbr, hc3⟩
  have HB := hide ((unhide hc3).done (Nat.le_refl _))
  clear hc3 C2
  go_wp2
  go_ret
  exact ⟨qb, n, c, ls, rfl, hq, hnc, hn, hbr, HB⟩
end Go.Proofs.YtcplnodfcchdhaaGreat

/-
  'append(own, src...)' where the source may be nil: one law for both.
-/
namespace Go.Proofs.YtcplnodfcchdhaaGreat
open Go.RowKit
set_option linter.unusedVariables false
theorem wpList_append_opt {P : Program} (w : World) {ops : Array Oper} {rest : List Oper} {o : Oper} {a : Act} {Q : Exit → Act → World → Prop} (hgd : o.guard = none) (s x : Operand) (t : TypeId)
    (ho : o.op = .call { callee := .builtin .append, args := #[s, x], argTypes := #[t, t] })
    (base : Nat) (e : TypeId) (i : TypeInfo) (z : Value) (size bytes : Nat) (ht : P.underlying t = some (.slice e)) (hi : P.info? e = some i) (hz : i.zero = some z)
    (hsize : i.size = size) (hby : i.bytes = bytes) (hzs : z.cells.size = size) (hsz : 0 < size)
    (v : Value) (n : Nat) (xs : List Value) (hs : a.eval s = v) (hown : w.ownsRow base e size v n xs)
    (ao : Option Addr) (m c : Nat) (news : List Value) (hx : a.eval x = .slice ao m c) (hn : ao = none → m = 0 ∧ c = 0) (hl : news.length = m * size) (hnews : ∀ ad, ao = some ad → ∀ j u, news[j]? = some u → w.cell? (ad.add j) = some u) (h1 : ∀ u ∈ news, u.oneCell' = true)
    (h63 : n + m ≤ maxLen) (hbytes : (n + m) * bytes ≤ 140737488355328) (hbase : base ≤ w.heap.size)
    (h : ∀ v' w', w'.ownsRow base e size v' (n + m) (xs ++ news) → w.grownBy w' v.ownBlock → (v' = .slice none 0 0 ↔ v = .slice none 0 0 ∧ m = 0) → wpList P ops Q rest (a.put o.dst v') w') : wpList P ops Q (o :: rest) a w := by
  cases ao with
  | some ad => exact wpList_append_own w hgd s x t ho base e i z size bytes ht hi hz hsize hby hzs hsz v n xs hs hown ad m c news hx hl (hnews ad rfl) h1 h63 hbytes hbase h
  | none =>
    obtain ⟨rfl, rfl⟩ := hn rfl
    obtain rfl : news = [] := List.eq_nil_of_length_eq_zero (by omega)
    refine wpList_append_own_none hgd s x t ho base e i size ht hi v n xs hs hown hx (h v w (by simpa using hown) ⟨rfl, rfl, rfl, Nat.le_refl _, fun _ _ _ => rfl⟩ (by simp))
end Go.Proofs.YtcplnodfcchdhaaGreat
