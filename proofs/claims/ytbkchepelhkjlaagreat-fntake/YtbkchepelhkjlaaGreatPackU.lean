/-
  Several texts of this claim in one: DrG, SOwn, TextsR, DrH, DrI, AppN (pack.py put them together); each says in its own remark what is proved.
-/
import Derived.Test.YtbkchepelhkjlaaGreatPackT
import Derived.Test.YtbkchepelhkjlaaGreatPackB
import Derived.Laws.AppendOwn
import Derived.Test.YtbkchepelhkjlaaGreatPackA
import Derived.Laws.AppendOwnNone
/-
 What FnTake draws: a state with numbers, with an application, with a machine; whether a number is among some, by the law.
-/
namespace Go.Proofs.YtbkchepelhkjlaaGreat
open Go.RowKit
set_option linter.unusedVariables false
set_option linter.unusedSimpArgs false
/-- a drawn state, to those who only read it -/
structure DrU (w : World) (y : Sls) (s : St) (hs : List AV) : Prop where
 row : SRow w y s
 av : AVRow w y.aa y.al hs
 hd : Heads w hs s.apps
 sm : SSome y hs
 cap : y.ql ≤ y.qc
 fit : FitSt s
 wf : WfSt s
theorem DrS.use {g : Nat} {w : World} {y : Sls} {s : St} {hs : List AV} (h : DrS g w y s hs) : DrU w y s hs := ⟨h.row, h.av, h.hd, h.sm, h.cap, h.fit, h.wf⟩
theorem DrU.below {w w' : World} {y : Sls} {s : St} {hs : List AV} (h : DrU w y s hs) (hb : Below w.heap.size w w') : DrU w' y s hs := ⟨h.row.below hb, h.av.below hb, h.hd.below hb, h.sm, h.cap, h.fit, h.wf⟩

set_option maxRecDepth 100000 in
set_option maxHeartbeats 1000000 in
theorem node_st {w0 : World} {B g : Nat} {ao : Option Addr} {len cap : Nat} (w : World) (h : CSt w0 B g ao len cap w) :
  Calls Tryz.prog 48 #[.pointer (some ⟨g, 0, none⟩)] w fun e w' => ∃ l : List UInt8, e = .returned (.string (bs l)) ∧ l.length ≤ 12 ∧ CSt w0 B g ao len cap w' := by
 have HS := hide h
 have hgl := h.1.lt
 have hq := hide (pickt_alloc w 9 [⟨#[109, 49]⟩, ⟨#[109, 50]⟩, ⟨#[109, 51]⟩, ⟨#[110, 111, 110, 101]⟩, ⟨#[109, 49]⟩] (by decide))
 clear h
 go_enter Tryz.func48, Tryz.ntmps48
 go_wp2_with fail
 refine (pickS_st w.heap.size 5 5 _ ((unhide HS).alloc _) (unhide hq) (by omega) (by decide) (by decide)).mono ?_
 rintro e w1 ⟨sq, rfl, hsq, hc⟩
 obtain ⟨l, rfl⟩ : ∃ l, sq = bs l := ⟨_, (bs_bk _).symm⟩
 rw [bs_size] at hsq
 have HC := hide hc
 clear hc HS hq
 go_wp2
 go_ret
 exact ⟨l, rfl, hsq, unhide HC⟩

set_option maxRecDepth 100000 in
set_option maxHeartbeats 4000000 in
theorem drawDrop_any (B : Nat) (ao : Option Addr) (len cap : Nat) (w : World) (hcode : Code w B ao len) :
  Calls Tryz.prog 36 #[.slice ao len cap] w fun e w' => ∃ y s hs x, e = .returned (.tuple #[sv y s, .int .i64 x]) ∧ Hid (DrU w' y s hs) ∧ (0 ≤ x ∧ x ≤ 100000) ∧ Hid (Below w.heap.size w w') := by
 have b0 := below_al (Below.refl _ w) (.cells #[.slice none 0 0, .int .i64 0, .int .i64 0, .int .i64 0, .int .i64 0, .slice none 0 0, .slice none 0 0, .slice none 0 0] 29)
 have HK := hide (hcode.below (B' := w.heap.size) (below_al (Below.refl _ w) (.cells #[.slice none 0 0, .int .i64 0, .int .i64 0, .int .i64 0, .int .i64 0, .slice none 0 0, .slice none 0 0, .slice none 0 0] 29)) hcode.1)
 have R0 := hide (blk_new w #[.slice none 0 0, .int .i64 0, .int .i64 0, .int .i64 0, .int .i64 0, .slice none 0 0, .slice none 0 0, .slice none 0 0] 29)
 have HB0 := hide b0
 clear hcode b0
 go_enter Tryz.func36, Tryz.ntmps36
 go_wp2_with fail
 refine (new_st B ao len cap _ (unhide HK)).mono ?_
 rintro e w2 ⟨rfl, hc2⟩
 rw [al_size] at hc2 ⊢
 obtain ⟨w1, hw1⟩ : ∃ w1, w.alloc (.cells #[.slice none 0 0, .int .i64 0, .int .i64 0, .int .i64 0, .int .i64 0, .slice none 0 0, .slice none 0 0, .slice none 0 0] 29) = w1 := ⟨_, rfl⟩
 have hz1 : w1.heap.size = w.heap.size + 1 := by rw [← hw1, al_size]
 rw [hw1] at hc2 R0 HB0
 have C2 := hide hc2
 have R2 := hide (show Blk w2 w.heap.size #[.slice none 0 0, .int .i64 0, .int .i64 0, .int .i64 0, .int .i64 0, .slice none 0 0, .slice none 0 0, .slice none 0 0] 29 from (hc2.2.2.1.block w.heap.size (by omega) (fun e => by simp at e)).trans (unhide R0))
 clear hc2 HK hw1 R0
 go_wp2_with fail
 refine (spoilt_st _ (unhide C2).rebase).mono ?_
 rintro e w3 ⟨y, s, hs, rfl, hd, hc3⟩
 have C3 := hide ((unhide C2).step (unhide hc3).1 (unhide hc3).2.2.1)
 have R3 := hide ((cur_mks (unhide C2).1 (unhide hc3).1 (unhide hc3).2.2.1).blk (unhide R2) (by omega))
 have b4 := below_al (Below.refl _ w3) (.cells (svc y s) 29)
 have C4 := hide ((unhide C3).below b4)
 have R4 := hide ((unhide R3).below b4)
 have D4 := hide ((unhide hd).below b4)
 have X4 := hide (blk_new w3 (svc y s) 29)
 have hz3 : w.heap.size + 1 < w3.heap.size := (unhide C3).1.lt
 clear hd hc3 C2 C3 R2 R3 b4
 go_upto_region 3 with fail
 generalize w3.alloc (.cells (svc y s) 29) = w4 at C4 R4 D4 X4 ⊢
 generalize w3.heap.size = b at X4 hz3 ⊢
 refine wp_region_held_drew (S := fun wx => Blk wx b (svc y s) 29) (by kernel_rfl) ((unhide X4).drew) (fun S0 => ?_)
 have C5 := hide ((unhide C4).below (Below.refl _ w4).drew)
 have R5 := hide ((unhide R4).below (Below.refl _ w4).drew)
 have D5 := hide ((unhide D4).below (Below.refl _ w4).drew)
 clear C4 R4 D4 X4
 generalize w4.drew = wn at S0 C5 R5 D5 ⊢
 refine takeW 0 10 (sv y s) rfl rfl S0 ?_ (hy := Or.inl ⟨by rfl, fun wz hz => run_v (state_load hz rfl)⟩)
 try simp only [Act.put, List.setIfInBounds_toArray, List.set_cons_zero, List.set_cons_succ]
 refine takeW 1 11 _ rfl rfl S0 ?_
 try simp only [Act.put, List.setIfInBounds_toArray, List.set_cons_zero, List.set_cons_succ]
 refine wpAnyH_ready (rs := [2]) (by kernel_rfl) (by simp) (AllReadyH.cons rfl (fun K hK => ?_) AllReadyH.nil)
 go_simp
 refine (below_st 6 _ (unhide C5).rebase (by decide) (by decide)).mono ?_
 rintro e wm ⟨x, rfl, hx0, hx1, hcm, _⟩
 have hm := cur_mks (unhide C5).1 hcm.1 hcm.2.2.1
 have S1 := hm.blk S0 (by omega)
 have C6 := hide ((unhide C5).step hcm.1 hcm.2.2.1)
 have R6 := hide (hm.blk (unhide R5) (by omega))
 have D6 := hide ((unhide D5).cur (unhide C5).1 hcm.1 hcm.2.2.1)
 clear S0 hcm hm C5 R5 D5
 go_wp2_with fail
 refine hK.out _ _ S1 (fun S0 => ?_)
 clear hK K S1
 try simp only [Act.put, List.setIfInBounds_toArray, List.set_cons_zero, List.set_cons_succ]
 refine takeW 3 13 (.int .i64 (1000 + x)) rfl rfl S0 ?_ (hy := Or.inl ⟨by rfl, fun wz hz => by (go_simp; rw [IntKind.wrap_i64]; omega)⟩)
 try simp only [Act.put, List.setIfInBounds_toArray, List.set_cons_zero, List.set_cons_succ]
 have HZ := hide (show Blk wm w.heap.size (svc ⟨none, 0, 0, none, 0, 0, none, 0, 0, none, 0, 0⟩ ⟨[], 0, 0, 0, 0, [], [], []⟩) 29 from unhide R6)
 have MM := mks_rw (unhide R6) (svc y s) rfl
 have S1 := MM.blk S0 (by omega)
 have RR := hide (blk_rw (unhide R6) (svc y s))
 have D7 := hide ((unhide D6).mkb MM (unhide HZ)).use
 have B7 := hide (show Below w.heap.size w _ from ((unhide HB0).trans (((unhide C6).done (by omega)).mono (by omega))).trans (MM.below (fun k e => by subst e; exact Nat.le_refl _) (by have := (unhide C6).2.2.1.size; omega)))
 refine wpAnyH_ready (rs := [4]) (by kernel_rfl) (by simp) (AllReadyH.cons rfl (fun K hK => readyU (by rfl) rfl (run_u (blk_store 29 (arr := svc y s) (unhide R6) (by kernel_rfl) rfl (by kernel_rfl))) ?_) AllReadyH.nil)
 refine hK.out _ _ S1 (fun S0 => ?_)
 clear hK K S1
 try simp only [Act.put, List.setIfInBounds_toArray, List.set_cons_zero, List.set_cons_succ]
 refine takeW 5 3 _ rfl rfl S0 ?_
 try simp only [Act.put, List.setIfInBounds_toArray, List.set_cons_zero, List.set_cons_succ]
 refine wpAnyH_done (by kernel_rfl) ?_ _
 clear MM HZ R6 C6 D6 S0
 generalize World.setRow wm w.heap.size (svc y s) = W9 at RR D7 B7 ⊢
 have z0 := (unhide RR).at 0; have z1 := (unhide RR).at 1; have z2 := (unhide RR).at 2; have z3 := (unhide RR).at 3; have z4 := (unhide RR).at 4; have z5 := (unhide RR).at 5; have z6 := (unhide RR).at 6; have z7 := (unhide RR).at 7
 simp at z0 z1 z2 z3 z4 z5 z6 z7
 go_wp2
 refine bodyPost_ret (v := .tuple #[sv y s, .int .i64 (1000 + x)]) (by simp [results, Tryz.results36, go_sem, z0, z1, z2, z3, z4, z5, z6, z7]) rfl ?_
 exact ⟨y, s, hs, 1000 + x, rfl, D7, ⟨by omega, by omega⟩, B7⟩

set_option maxRecDepth 100000 in
set_option maxHeartbeats 4000000 in
theorem drawLose_any (B : Nat) (ao : Option Addr) (len cap : Nat) (w : World) (hcode : Code w B ao len) :
  Calls Tryz.prog 39 #[.slice ao len cap] w fun e w' => ∃ y s hs l, e = .returned (.tuple #[sv y s, .string (bs l)]) ∧ Hid (DrU w' y s hs) ∧ l.length ≤ 12 ∧ Hid (Below w.heap.size w w') := by
 have b0 := below_al (Below.refl _ w) (.cells #[.slice none 0 0, .int .i64 0, .int .i64 0, .int .i64 0, .int .i64 0, .slice none 0 0, .slice none 0 0, .slice none 0 0] 29)
 have HK := hide (hcode.below (B' := w.heap.size) (below_al (Below.refl _ w) (.cells #[.slice none 0 0, .int .i64 0, .int .i64 0, .int .i64 0, .int .i64 0, .slice none 0 0, .slice none 0 0, .slice none 0 0] 29)) hcode.1)
 have R0 := hide (blk_new w #[.slice none 0 0, .int .i64 0, .int .i64 0, .int .i64 0, .int .i64 0, .slice none 0 0, .slice none 0 0, .slice none 0 0] 29)
 have HB0 := hide b0
 clear hcode b0
 go_enter Tryz.func39, Tryz.ntmps39
 go_wp2_with fail
 refine (new_st B ao len cap _ (unhide HK)).mono ?_
 rintro e w2 ⟨rfl, hc2⟩
 rw [al_size] at hc2 ⊢
 obtain ⟨w1, hw1⟩ : ∃ w1, w.alloc (.cells #[.slice none 0 0, .int .i64 0, .int .i64 0, .int .i64 0, .int .i64 0, .slice none 0 0, .slice none 0 0, .slice none 0 0] 29) = w1 := ⟨_, rfl⟩
 have hz1 : w1.heap.size = w.heap.size + 1 := by rw [← hw1, al_size]
 rw [hw1] at hc2 R0 HB0
 have C2 := hide hc2
 have R2 := hide (show Blk w2 w.heap.size #[.slice none 0 0, .int .i64 0, .int .i64 0, .int .i64 0, .int .i64 0, .slice none 0 0, .slice none 0 0, .slice none 0 0] 29 from (hc2.2.2.1.block w.heap.size (by omega) (fun e => by simp at e)).trans (unhide R0))
 clear hc2 HK hw1 R0
 go_wp2_with fail
 refine (spoilt_st _ (unhide C2).rebase).mono ?_
 rintro e w3 ⟨y, s, hs, rfl, hd, hc3⟩
 have C3 := hide ((unhide C2).step (unhide hc3).1 (unhide hc3).2.2.1)
 have R3 := hide ((cur_mks (unhide C2).1 (unhide hc3).1 (unhide hc3).2.2.1).blk (unhide R2) (by omega))
 have b4 := below_al (Below.refl _ w3) (.cells (svc y s) 29)
 have C4 := hide ((unhide C3).below b4)
 have R4 := hide ((unhide R3).below b4)
 have D4 := hide ((unhide hd).below b4)
 have X4 := hide (blk_new w3 (svc y s) 29)
 have hz3 : w.heap.size + 1 < w3.heap.size := (unhide C3).1.lt
 clear hd hc3 C2 C3 R2 R3 b4
 go_upto_region 3 with fail
 generalize w3.alloc (.cells (svc y s) 29) = w4 at C4 R4 D4 X4 ⊢
 generalize w3.heap.size = b at X4 hz3 ⊢
 refine wp_region_held_drew (S := fun wx => Blk wx b (svc y s) 29) (by kernel_rfl) ((unhide X4).drew) (fun S0 => ?_)
 have C5 := hide ((unhide C4).below (Below.refl _ w4).drew)
 have R5 := hide ((unhide R4).below (Below.refl _ w4).drew)
 have D5 := hide ((unhide D4).below (Below.refl _ w4).drew)
 clear C4 R4 D4 X4
 generalize w4.drew = wn at S0 C5 R5 D5 ⊢
 refine takeW 0 10 (sv y s) rfl rfl S0 ?_ (hy := Or.inl ⟨by rfl, fun wz hz => run_v (state_load hz rfl)⟩)
 try simp only [Act.put, List.setIfInBounds_toArray, List.set_cons_zero, List.set_cons_succ]
 refine takeW 1 11 _ rfl rfl S0 ?_
 try simp only [Act.put, List.setIfInBounds_toArray, List.set_cons_zero, List.set_cons_succ]
 refine wpAnyH_ready (rs := [2]) (by kernel_rfl) (by simp) (AllReadyH.cons rfl (fun K hK => ?_) AllReadyH.nil)
 go_simp
 refine (node_st _ (unhide C5).rebase).mono ?_
 rintro e wm ⟨l, rfl, hx0, hcm⟩
 have hm := cur_mks (unhide C5).1 hcm.1 hcm.2.2.1
 have S1 := hm.blk S0 (by omega)
 have C6 := hide ((unhide C5).step hcm.1 hcm.2.2.1)
 have R6 := hide (hm.blk (unhide R5) (by omega))
 have D6 := hide ((unhide D5).cur (unhide C5).1 hcm.1 hcm.2.2.1)
 clear S0 hcm hm C5 R5 D5
 go_wp2_with fail
 refine hK.out _ _ S1 (fun S0 => ?_)
 clear hK K S1
 try simp only [Act.put, List.setIfInBounds_toArray, List.set_cons_zero, List.set_cons_succ]
 have HZ := hide (show Blk wm w.heap.size (svc ⟨none, 0, 0, none, 0, 0, none, 0, 0, none, 0, 0⟩ ⟨[], 0, 0, 0, 0, [], [], []⟩) 29 from unhide R6)
 have MM := mks_rw (unhide R6) (svc y s) rfl
 have S1 := MM.blk S0 (by omega)
 have RR := hide (blk_rw (unhide R6) (svc y s))
 have D7 := hide ((unhide D6).mkb MM (unhide HZ)).use
 have B7 := hide (show Below w.heap.size w _ from ((unhide HB0).trans (((unhide C6).done (by omega)).mono (by omega))).trans (MM.below (fun k e => by subst e; exact Nat.le_refl _) (by have := (unhide C6).2.2.1.size; omega)))
 refine wpAnyH_ready (rs := [3]) (by kernel_rfl) (by simp) (AllReadyH.cons rfl (fun K hK => readyU (by rfl) rfl (run_u (blk_store 29 (arr := svc y s) (unhide R6) (by kernel_rfl) rfl (by kernel_rfl))) ?_) AllReadyH.nil)
 refine hK.out _ _ S1 (fun S0 => ?_)
 clear hK K S1
 try simp only [Act.put, List.setIfInBounds_toArray, List.set_cons_zero, List.set_cons_succ]
 refine takeW 4 3 _ rfl rfl S0 ?_
 try simp only [Act.put, List.setIfInBounds_toArray, List.set_cons_zero, List.set_cons_succ]
 refine wpAnyH_done (by kernel_rfl) ?_ _
 clear MM HZ R6 C6 D6 S0
 generalize World.setRow wm w.heap.size (svc y s) = W9 at RR D7 B7 ⊢
 have z0 := (unhide RR).at 0; have z1 := (unhide RR).at 1; have z2 := (unhide RR).at 2; have z3 := (unhide RR).at 3; have z4 := (unhide RR).at 4; have z5 := (unhide RR).at 5; have z6 := (unhide RR).at 6; have z7 := (unhide RR).at 7
 simp at z0 z1 z2 z3 z4 z5 z6 z7
 go_wp2
 refine bodyPost_ret (v := .tuple #[sv y s, .string (bs l)]) (by simp [results, Tryz.results39, go_sem, z0, z1, z2, z3, z4, z5, z6, z7]) rfl ?_
 exact ⟨y, s, hs, l, rfl, D7, hx0, B7⟩
end Go.Proofs.YtbkchepelhkjlaaGreat

/-
 Lists of texts that a call gathers, one behind the other.
-/
namespace Go.Proofs.YtbkchepelhkjlaaGreat
open Go.RowKit
set_option linter.unusedVariables false
abbrev scells (o : List ByteArray) : List Value := o.map Value.string
theorem Tryz.infoS : (Tryz.prog.info? 9).map (fun i => (i.zero, i.size, i.bytes)) = some (some (.string ByteArray.empty), 1, 16) := by kernel_rfl
theorem sown_empty (w : World) : (w.alloc (.cells #[] 9)).ownsRow w.heap.size 9 1 (.slice (some ⟨w.heap.size, 0, none⟩) 0 0) ([] : List ByteArray).length (scells []) :=
 ⟨rfl, .inr ⟨w.heap.size, 0, #[], rfl, Nat.le_refl _, by show (w.heap.push _)[w.heap.size]? = _; simp, Nat.le_refl _, by unfold maxLen; omega, rfl, rfl⟩⟩
theorem ss_of_owns {w : World} {B : Nat} {v : Value} {o : List ByteArray} (h : w.ownsRow B 9 1 v o.length (scells o)) (ho : 1 ≤ o.length) : ∃ g cap, v = .slice (some ⟨g, 0, none⟩) o.length cap ∧ SS w g cap o ∧ B ≤ g := by
 rcases h.2 with ⟨_, h0⟩ | ⟨g, cap, cur, rfl, h1, h2, h3, h4, h5, h6⟩
 ·omega
 ·exact ⟨g, cap, rfl, SS.mk h2 h3 h4 (by simpa using h5) (by simpa using h6), h1⟩

theorem sown_below {w w' : World} {B : Nat} {v : Value} {o : List ByteArray} (h : w.ownsRow B 9 1 v o.length (scells o)) (hb : Below w.heap.size w w') : w'.ownsRow B 9 1 v o.length (scells o) :=
 h.kept (grownBy_below (grownBy_refl w none) hb) (by by_cases e : v.ownBlock = none; exact .inl e; exact .inr e)
/-- v is a list of these texts, in memory of its own from block B on -/
def Texts (B : Nat) (w : World) (v : Value) (ps : List (List UInt8)) : Prop := w.ownsRow B 9 1 v (ps.map bs).length (scells (ps.map bs))
theorem Texts.of {B : Nat} {w : World} {v : Value} {ps : List (List UInt8)} {o : List ByteArray} (h : w.ownsRow B 9 1 v o.length (scells o)) (e : o = ps.map bs) : Texts B w v ps := by subst e; exact h
theorem Texts.below {w w' : World} {B : Nat} {v : Value} {ps : List (List UInt8)} (h : Texts B w v ps) (hb : Below w.heap.size w w') : Texts B w' v ps := sown_below h hb
end Go.Proofs.YtbkchepelhkjlaaGreat

/-
 Lists of texts: as rows.
-/
namespace Go.Proofs.YtbkchepelhkjlaaGreat
open Go.RowKit
set_option linter.unusedVariables false
theorem texts_none {B : Nat} {w : World} {v : Value} (h : Texts B w v []) : ∃ a cap, v = .slice a 0 cap := by
 rcases h.2 with ⟨rfl, _⟩ | ⟨g, cap, cur, rfl, _⟩
 ·exact ⟨_, _, rfl⟩
 ·exact ⟨_, _, rfl⟩
theorem texts_some {B : Nat} {w : World} {v : Value} {ps : List (List UInt8)} (h : Texts B w v ps) (hp : ps ≠ []) : ∃ g cap, v = .slice (some ⟨g, 0, none⟩) ps.length cap ∧ SS w g cap (ps.map bs) ∧ B ≤ g := by
 have hl : 0 < ps.length := List.length_pos_iff.2 hp
 obtain ⟨g, cap, h1, h2, h3⟩ := ss_of_owns h (by simp; omega)
 exact ⟨g, cap, by rw [h1]; simp, h2, h3⟩
theorem SS.text {w : World} {g cap : Nat} {ps : List (List UInt8)} (h : SS w g cap (ps.map bs)) {j : Nat} (hj : j < ps.length) : w.cell? ⟨g, j, none⟩ = some (.string (bs ps[j])) := by
 have := h.cell j (by simpa using hj)
 simpa using this
end Go.Proofs.YtbkchepelhkjlaaGreat

/-
 What FnTake draws besides: a state with numbers; among, has and names of the laws; walks over the dump.
-/
namespace Go.Proofs.YtbkchepelhkjlaaGreat
open Go.RowKit
set_option linter.unusedVariables false
set_option linter.unusedSimpArgs false
theorem iown_mks {B : Nat} {S : Nat → Prop} {w w' : World} {v : Value} {l : List Int} (h : IOwn B w v l) (hm : Mks S w w') (hS : ∀ k, S k → k < B) : IOwn B w' v l := by
 obtain ⟨h1, h2⟩ := h
 refine ⟨h1, ?_⟩
 rcases h2 with h2 | ⟨g, cap, cur, e, k1, k2, k3⟩
 ·exact .inl h2
 ·exact .inr ⟨g, cap, cur, e, k1, (hm.block g (lt_of_block k2) (fun hs => by have := hS g hs; omega)).trans k2, k3⟩
theorem iown_cur {B g : Nat} {w w' : World} {v : Value} {l : List Int} (h : IOwn B w v l) (hg : w.grownBy w' (some g)) (hb : g < B) : IOwn B w' v l := by
 obtain ⟨h1, h2⟩ := h
 refine ⟨h1, ?_⟩
 rcases h2 with h2 | ⟨g', cap, cur, e, k1, k2, k3⟩
 ·exact .inl h2
 ·exact .inr ⟨g', cap, cur, e, k1, (hg.block g' (lt_of_block k2) (fun e => by have := Option.some.inj e; omega)).trans k2, k3⟩
set_option maxRecDepth 100000 in
set_option maxHeartbeats 1000000 in
theorem among_any (ao : Option Addr) (len cap : Nat) (l : List Int) (x : Int) (w : World) (h : IRow w ao len l) (hl : len ≤ 1048576) :
  Calls Tryz.prog 43 #[.slice ao len cap, .int .i64 x] w fun e w' => e = .returned (.bool (hasI x l)) ∧ w = w' := by
 have HR := hide h
 have HL := hide h.1
 clear h
 go_enter Tryz.func43, Tryz.ntmps43
 go_wp2
 go_loopw [5] (fun i wr => ∃ k : Nat, k ≤ len ∧ i = .int .i64 k ∧ Hid (hasI x l = hasI x (l.drop k)) ∧ wr = w) (fun i _ => len - (intOf i).toNat)
 case atStart => exact ⟨0, Nat.zero_le _, rfl, hide (by simp), rfl⟩
 case round =>
  obtain ⟨k, hk, rfl, hp, rfl⟩ := hrel
  by_cases hlt : k < len
  ·obtain ⟨b, off, rfl, hq⟩ := (unhide HR).at hlt
   have hkl : k < l.length := by have := unhide HL; omega
   have hst := hide (hasI_step (x := x) hkl)
   have c0 := hq hkl
   clear hq
   obtain ⟨s, hs⟩ : ∃ s, l[k] = s := ⟨_, rfl⟩
   rw [hs] at c0 hst
   clear hs hkl
   by_cases he : s = x
   ·have HE := hide he
    have hbe : (s == x) = true := by simp [he]
    clear he
    go_wp2
    go_ret
    exact ⟨ret_bool (by rw [unhide hp, unhide hst]; simp [unhide HE]), rfl⟩
   ·have HE := hide he
    have hbe : (s == x) = false := by simp [he]
    clear he
    go_wp2
    go_roundw
    case rel => exact ⟨k + 1, by omega, by go_num, hide (by rw [unhide hp, unhide hst]; simp [unhide HE]), trivial⟩
    case measure => simp [intOf]; omega
  ·go_wp2
   go_ret
   exact ⟨ret_bool (by rw [unhide hp, hasI_end (by have := unhide HL; omega)]), rfl⟩

set_option maxRecDepth 100000 in
set_option maxHeartbeats 1000000 in
theorem lawsHas_any (v : Value) (ps : List (List UInt8)) (nm : List UInt8) (B : Nat) (w : World) (h : Texts B w v ps) (hl : ps.length ≤ 1048576) :
  Calls Tryz.prog 44 #[v, .string (bs nm)] w fun e w' => e = .returned (.bool (ps.any (fun x => decide (x = nm)))) ∧ w = w' := by
 obtain ⟨o, ho⟩ : ∃ o, ps.any (fun x => decide (x = nm)) = o := ⟨_, rfl⟩
 have HO := hide (show (ps.drop 0).any (fun x => decide (x = nm)) = o from ho)
 rw [ho]
 clear ho
 obtain ⟨ao, cap, rfl, HC⟩ : ∃ ao cap, v = .slice ao ps.length cap ∧ Hid (∀ j (hj : j < ps.length), ∃ g, ao = some ⟨g, 0, none⟩ ∧ w.cell? ⟨g, j, none⟩ = some (.string (bs ps[j]))) := by
  by_cases hp : ps = []
  ·subst hp
   obtain ⟨a, cap, rfl⟩ := texts_none h
   exact ⟨a, cap, rfl, hide (fun j hj => by simp at hj)⟩
  ·obtain ⟨g, cap, rfl, hs, _⟩ := texts_some h hp
   exact ⟨_, cap, rfl, hide (fun j hj => ⟨g, rfl, hs.text hj⟩)⟩
 clear h
 obtain ⟨n, hn⟩ : ∃ n, ps.length = n := ⟨_, rfl⟩
 rw [hn] at hl ⊢
 have HN := hide hn
 clear hn
 go_enter Tryz.func44, Tryz.ntmps44
 go_wp2
 go_loopw [5] (fun i wr => ∃ (k : Nat), k ≤ n ∧ i = .int .i64 k ∧ Hid ((ps.drop k).any (fun x => decide (x = nm)) = o) ∧ wr = w) (fun i _ => n - (intOf i).toNat)
 case atStart => exact ⟨0, Nat.zero_le _, rfl, HO, rfl⟩
 case round =>
  obtain ⟨k, hk, rfl, HQ, rfl⟩ := hrel
  by_cases hlt : k < n
  ·have hkl : k < ps.length := by have := unhide HN; omega
   obtain ⟨g, rfl, c0⟩ := unhide HC k hkl
   have hst : (ps.drop k).any (fun x => decide (x = nm)) = (decide (ps[k] = nm) || (ps.drop (k + 1)).any (fun x => decide (x = nm))) := by rw [List.drop_eq_getElem_cons hkl, List.any_cons]
   rw [unhide HQ] at hst
   obtain ⟨s, hs⟩ : ∃ s, ps[k] = s := ⟨_, rfl⟩
   rw [hs] at c0 hst
   have hbe := bs_eq s nm
   clear hs hkl
   by_cases he : s = nm
   ·rw [decide_eq_true he] at hbe hst
    have hot : o = true := by rw [hst]; rfl
    subst hot
    clear he hst
    go_wp2
    go_ret
    exact ⟨rfl, rfl⟩
   ·rw [decide_eq_false he] at hbe hst
    have HN2 := hide (show (ps.drop (k + 1)).any (fun x => decide (x = nm)) = o by simpa using hst.symm)
    clear he hst
    go_wp2
    go_roundw
    case rel => exact ⟨k + 1, by omega, by go_num, HN2, trivial⟩
    case measure => simp [intOf]; omega
  ·have hof : o = false := by rw [← unhide HQ, List.drop_of_length_le (by have := unhide HN; omega)]; rfl
   subst hof
   go_wp2
   go_ret
   exact ⟨rfl, rfl⟩
set_option maxRecDepth 100000 in
set_option maxHeartbeats 4000000 in
theorem drawTakeBack_any (B : Nat) (ao : Option Addr) (len cap : Nat) (w : World) (hcode : Code w B ao len) :
  Calls Tryz.prog 33 #[.slice ao len cap] w fun e w' => ∃ y s hs io il ic ids, e = .returned (.tuple #[sv y s, .slice io il ic]) ∧ Hid (DrU w' y s hs) ∧ Hid (IRow w' io il ids) ∧ il ≤ 3 ∧ Hid (Below w.heap.size w w') := by
 have b0 := below_al (Below.refl _ w) (.cells #[.slice none 0 0, .int .i64 0, .int .i64 0, .int .i64 0, .int .i64 0, .slice none 0 0, .slice none 0 0, .slice none 0 0] 29)
 have HK := hide (hcode.below (B' := w.heap.size) (below_al (Below.refl _ w) (.cells #[.slice none 0 0, .int .i64 0, .int .i64 0, .int .i64 0, .int .i64 0, .slice none 0 0, .slice none 0 0, .slice none 0 0] 29)) hcode.1)
 have R0 := hide (blk_new w #[.slice none 0 0, .int .i64 0, .int .i64 0, .int .i64 0, .int .i64 0, .slice none 0 0, .slice none 0 0, .slice none 0 0] 29)
 have HB0 := hide b0
 clear hcode b0
 go_enter Tryz.func33, Tryz.ntmps33
 go_wp2_with fail
 refine (new_st B ao len cap _ (unhide HK)).mono ?_
 rintro e w2 ⟨rfl, hc2⟩
 rw [al_size] at hc2 ⊢
 obtain ⟨w1, hw1⟩ : ∃ w1, w.alloc (.cells #[.slice none 0 0, .int .i64 0, .int .i64 0, .int .i64 0, .int .i64 0, .slice none 0 0, .slice none 0 0, .slice none 0 0] 29) = w1 := ⟨_, rfl⟩
 have hz1 : w1.heap.size = w.heap.size + 1 := by rw [← hw1, al_size]
 rw [hw1] at hc2 R0 HB0
 have C2 := hide hc2
 have R2 := hide (show Blk w2 w.heap.size #[.slice none 0 0, .int .i64 0, .int .i64 0, .int .i64 0, .int .i64 0, .slice none 0 0, .slice none 0 0, .slice none 0 0] 29 from (hc2.2.2.1.block w.heap.size (by omega) (fun e => by simp at e)).trans (unhide R0))
 clear hc2 HK hw1 R0
 go_wp2_with fail
 refine (spoilt_st _ (unhide C2).rebase).mono ?_
 rintro e w3 ⟨y, s, hs, rfl, hd, hc3⟩
 have C3 := hide ((unhide C2).step (unhide hc3).1 (unhide hc3).2.2.1)
 have R3 := hide ((cur_mks (unhide C2).1 (unhide hc3).1 (unhide hc3).2.2.1).blk (unhide R2) (by omega))
 have b4 := below_al (Below.refl _ w3) (.cells (svc y s) 29)
 have C4 := hide ((unhide C3).below b4)
 have R4 := hide ((unhide R3).below b4)
 have D4 := hide ((unhide hd).below b4)
 have X4 := hide (blk_new w3 (svc y s) 29)
 have hz3 : w.heap.size + 1 < w3.heap.size := (unhide C3).1.lt
 clear hd hc3 C2 C3 R2 R3 b4
 have hz4 : (w3.alloc (.cells (svc y s) 29)).heap.size = w3.heap.size + 1 := al_size _ _
 obtain ⟨w4, hw4⟩ : ∃ w4, w3.alloc (.cells (svc y s) 29) = w4 := ⟨_, rfl⟩
 rw [hw4] at C4 R4 D4 X4 hz4
 obtain ⟨b, hb⟩ : ∃ b, w3.heap.size = b := ⟨_, rfl⟩
 rw [hb] at X4 hz3 hz4
 have HI4 := hide (show IOwn w4.heap.size (w4.alloc (.cells #[] 3)) (.slice (some ⟨w4.heap.size, 0, none⟩) 0 0) [] from iown_empty w4)
 have G4 := hide (show w4.grownBy (w4.alloc (.cells #[] 3)) (some (w.heap.size + 1)) from grownBy_below (grownBy_refl w4 _) (below_al (Below.refl _ w4) _))
 have U4 := hide ((unhide C4).below (below_al (Below.refl _ w4) (.cells #[] 3))).1
 rw [← hz4] at *
 go_wp2_with fail
 refine (below_st 4 _ ((unhide C4).step (unhide U4) (unhide G4)) (by decide) (by decide)).mono ?_
 rintro e w5 ⟨nx, rfl, hn0, hn1, hc5, hg5⟩
 have hgb : w.heap.size + 1 < w4.heap.size := (unhide C4).1.lt
 have HI5 := hide (iown_cur (unhide HI4) hg5 hgb)
 have G5 := hide (grownBy_trans (unhide G4) hg5)
 have U5 := hide hc5.1
 obtain ⟨n, rfl⟩ := Int.eq_ofNat_of_zero_le hn0
 have hn3 : n ≤ 3 := by omega
 clear HI4 G4 U4 hc5 hg5 hn0 hn1 hw4 hb
 go_wp2
 go_loopw [6, 8] (fun v i wr => ∃ (k : Nat) (ids : List Int), k ≤ n ∧ i = .int .i64 k ∧ ids.length = k ∧ Hid (IOwn w4.heap.size wr v ids) ∧ Hid (w4.grownBy wr (some (w.heap.size + 1))) ∧ Hid (Cur wr (w.heap.size + 1) ao len cap)) (fun _ i _ => n - (intOf i).toNat)
 case atStart => exact ⟨0, [], Nat.zero_le _, rfl, rfl, HI5, G5, U5⟩
 case round =>
  clear HI5 G5 U5
  obtain ⟨k, ids, hk, rfl, hid, HI, HG, HU⟩ := hrel
  by_cases hlt : k < n
  ·have k2 : (k : Int) < n := by omega
   go_wp2_with fail
   refine (below_st 8 _ ((unhide C4).step (unhide HU) (unhide HG)) (by decide) (by decide)).mono ?_
   rintro e w6 ⟨x, rfl, hx0, hx1, hc6, hg6⟩
   have HI6 := hide (iown_cur (unhide HI) hg6 hgb)
   have G6 := hide (grownBy_trans (unhide HG) hg6)
   have U6 := hide hc6.1
   have hz6 : w4.heap.size ≤ w6.heap.size := (unhide G6).size
   obtain ⟨i0, hi, hz0, hz1', hz2⟩ := info_parts Tryz.infoI
   have hown := unhide HI6
   unfold IOwn at hown
   have HOW := hide hown
   clear HI HG HU hc6 hg6
   go_wp2_with (at_builtin; refine wpList_append_own _ rfl _ _ 60 rfl w4.heap.size 3 i0 (.int .i64 0) 1 8 Tryz.underlying60 hi hz0 hz1' hz2 rfl (by decide) _ _ _ rfl (hown.alloc _) ⟨w6.heap.size, 0, none⟩ 1 1 [.int .i64 x] rfl rfl ?c1 ?c2 ?c3 ?c4 ?c5 ?_)
   case c1 => exact World.news_of_block (blk_new w6 #[.int .i64 x] 3)
   case c2 => intro u hu; simp at hu; subst hu; rfl
   case c3 => unfold maxLen; omega
   case c4 => omega
   case c5 => simp; omega
   intro v' w7 hown' hgrow _
   have hbx := below_al (Below.refl _ w6) (.cells #[.int .i64 x] 3)
   have hrow : ∀ j, _ = some j → w4.heap.size ≤ j := fun j e => (World.ownsRow.lt (unhide HOW) j e).1
   have N1 := hide (show IOwn w4.heap.size w7 v' (ids ++ [x]) by
    unfold IOwn
    rw [List.length_append, hid, icells, List.map_append]
    exact hown')
   have N2 := hide (show w4.grownBy w7 (some (w.heap.size + 1)) from (grownBy_below (unhide G6) hbx).andThen hgrow (fun j hj => .inl (hrow j hj)))
   have N3 := hide (show Cur w7 (w.heap.size + 1) ao len cap from by
    obtain ⟨i, z, h1, h2⟩ := (unhide U6).below hbx (unhide U6).lt
    exact ⟨i, z, (hgrow.block _ (lt_of_block h1) (fun e => by have := hrow _ e.symm; omega)).trans h1, h2⟩)
   clear hown hown' hgrow hbx hrow HOW HI6 G6 U6
   go_wp2
   go_roundw
   case rel => exact ⟨k + 1, ids ++ [x], by omega, by go_num, by simp [hid], N1, N2, N3⟩
   case measure => simp [intOf]; omega
  ·have k2 : ¬ (k : Int) < n := by omega
   subst hid
   have hm := cur_mks (unhide C4).1 (unhide HU) (unhide HG)
   have X9 := hide (hm.blk (unhide X4) (by omega))
   have R9 := hide (hm.blk (unhide R4) (by omega))
   have D9 := hide ((unhide D4).cur (unhide C4).1 (unhide HU) (unhide HG))
   have C9 := hide ((unhide C4).step (unhide HU) (unhide HG))
   have HZ := hide (show Blk wr w.heap.size (svc ⟨none, 0, 0, none, 0, 0, none, 0, 0, none, 0, 0⟩ ⟨[], 0, 0, 0, 0, [], [], []⟩) 29 from unhide R9)
   have MM := mks_rw (unhide R9) (svc y s) rfl
   have RR := hide (blk_rw (unhide R9) (svc y s))
   have D7 := hide ((unhide D9).mkb MM (unhide HZ)).use
   have I7 := iown_mks (unhide HI) MM (fun k e => by subst e; omega)
   have B7 := hide (show Below w.heap.size w _ from ((unhide HB0).trans (((unhide C9).done (by omega)).mono (by omega))).trans (MM.below (fun k e => by subst e; exact Nat.le_refl _) (by have := (unhide C9).2.2.1.size; omega)))
   obtain ⟨io, ic, rfl, hir⟩ := iown_row I7
   have HIR := hide hir
   clear hm hir I7 MM
   go_upto_region 9 with fail
   refine wp_region_lit ?_
   refine wpList_same (v := .agg (svc y s)) (d := some 26) rfl rfl (run_v (state_load (unhide X9) rfl)) ?_
   try simp only [Act.put, List.setIfInBounds_toArray, List.set_cons_zero, List.set_cons_succ]
   refine wpList_same (v := .slice io ids.length ic) (d := some 27) rfl rfl (by go_simp) ?_
   try simp only [Act.put, List.setIfInBounds_toArray, List.set_cons_zero, List.set_cons_succ]
   refine wpList_none (d := none) rfl rfl (run_u (blk_store 29 (arr := svc y s) (unhide R9) (by kernel_rfl) rfl (by kernel_rfl))) ?_
   try simp only [Act.put]
   clear X9 R9 D9 C9 HZ HI HG HU C4 R4 D4 X4
   generalize World.setRow wr w.heap.size (svc y s) = W9 at RR D7 B7 HIR ⊢
   have z0 := (unhide RR).at 0; have z1 := (unhide RR).at 1; have z2 := (unhide RR).at 2; have z3 := (unhide RR).at 3; have z4 := (unhide RR).at 4; have z5 := (unhide RR).at 5; have z6 := (unhide RR).at 6; have z7 := (unhide RR).at 7
   simp at z0 z1 z2 z3 z4 z5 z6 z7
   go_wp2
   refine bodyPost_ret (v := .tuple #[sv y s, .slice io ids.length ic]) (by simp [results, Tryz.results33, go_sem, z0, z1, z2, z3, z4, z5, z6, z7]) rfl ?_
   exact ⟨y, s, hs, io, ids.length, ⟨ic, rfl⟩, D7, ⟨ids, HIR⟩, by omega, B7⟩
end Go.Proofs.YtbkchepelhkjlaaGreat

/-
 The names of a state's machines, by the law; a walk over the dump.
-/
namespace Go.Proofs.YtbkchepelhkjlaaGreat
open Go.RowKit
set_option linter.unusedVariables false
set_option linter.unusedSimpArgs false
set_option maxRecDepth 100000 in
set_option maxHeartbeats 2000000 in
theorem names_any (y : Sls) (s : St) (w : World) (h : SRow w y s) (hf : FitSt s) :
  Calls Tryz.prog 45 #[sv y s] w fun e w' => ∃ v, e = .returned v ∧ Hid (Texts (w.heap.size + 1) w' v (s.ms.map (fun m => m.name))) ∧ Hid (Below w.heap.size w w') := by
 obtain ⟨i0, hi, hz0, hz1, hz2⟩ := info_parts Tryz.infoS
 have hml := h.2.2.1.1
 have hm6 : y.ml ≤ 1048576 := by have := hf.2.2.1.1; omega
 have HR := hide h.2.2.1
 have b1 := below_al (Below.refl _ w) (.cells (svc y s) 29)
 have hz : (w.alloc (.cells (svc y s) 29)).heap.size = w.heap.size + 1 := al_size _ _
 have X2 := hide ((blk_new w (svc y s) 29).al (.cells #[] 9))
 have T2 := hide (show Texts (w.heap.size + 1) ((w.alloc (.cells (svc y s) 29)).alloc (.cells #[] 9)) (.slice (some ⟨w.heap.size + 1, 0, none⟩) 0 0) ((s.ms.take 0).map (fun m => m.name)) by have := sown_empty (w.alloc (.cells (svc y s) 29)); rw [hz] at this; exact this)
 have B2 := hide (below_al b1 (.cells #[] 9))
 have HML := hide hml
 clear h hf b1 hz hml
 go_enter Tryz.func45, Tryz.ntmps45
 go_upto_region 2 with fail
 generalize (w.alloc (.cells (svc y s) 29)).alloc (.cells #[] 9) = w2 at X2 T2 B2 ⊢
 go_wp2
 go_loopw [3, 4] (fun v i wr => ∃ k : Nat, k ≤ y.ml ∧ i = .int .i64 k ∧ Hid (Texts (w.heap.size + 1) wr v ((s.ms.take k).map (fun m => m.name))) ∧ Hid (Blk wr w.heap.size (svc y s) 29) ∧ Hid (Below w.heap.size w wr)) (fun _ i _ => y.ml - (intOf i).toNat)
 case atStart => exact ⟨0, Nat.zero_le _, rfl, T2, X2, B2⟩
 case round =>
  clear X2 T2 B2
  obtain ⟨k, hk, rfl, HT, HX, HB⟩ := hrel
  have c6 := (unhide HX).at 6
  simp at c6
  by_cases hlt : k < y.ml
  ·have hkl : k < s.ms.length := by have := unhide HML; omega
   obtain ⟨b', off, hma, hq⟩ := ((unhide HR).below (unhide HB)).at hlt
   obtain ⟨c0, -, -, -⟩ := hq hkl
   rw [hma] at c6
   have htk : (s.ms.take (k + 1)).map (fun m => m.name) = (s.ms.take k).map (fun m => m.name) ++ [s.ms[k].name] := by rw [List.take_succ_eq_append_getElem hkl, List.map_append]; rfl
   obtain ⟨nm, hnm⟩ : ∃ n, s.ms[k].name = n := ⟨_, rfl⟩
   rw [hnm] at c0 htk
   obtain ⟨ps, hps⟩ : ∃ p, (s.ms.take k).map (fun m => m.name) = p := ⟨_, rfl⟩
   have hpl : ps.length ≤ 1048576 := by rw [← hps, List.length_map, List.length_take]; omega
   rw [hps] at HT htk
   have HTK := hide htk
   have hown : wr.ownsRow (w.heap.size + 1) 9 1 u3 (ps.map bs).length (scells (ps.map bs)) := unhide HT
   have HOW := hide hown
   have hpm : (ps.map bs).length ≤ 1048576 := by simpa using hpl
   have hzr : w.heap.size + 1 ≤ wr.heap.size := (unhide HX).lt
   have k0 : (0 : Int) ≤ k := by omega
   have k1 : (k : Int) < y.ml := by omega
   clear hq hkl htk hnm hps HT hma
   go_wp2_with (at_builtin; refine wpList_append_own _ rfl _ _ 72 rfl (w.heap.size + 1) 9 i0 (.string ByteArray.empty) 1 16 Tryz.underlying72 hi hz0 hz1 hz2 rfl (by decide) _ _ _ rfl (hown.alloc _) ⟨wr.heap.size, 0, none⟩ 1 1 [.string (bs nm)] rfl rfl ?c1 ?c2 ?c3 ?c4 ?c5 ?_)
   case c1 => exact World.news_of_block (blk_new wr #[.string (bs nm)] 9)
   case c2 => intro u hu; simp at hu; subst hu; rfl
   case c3 => unfold maxLen; omega
   case c4 => omega
   case c5 => simp; omega
   intro v' w3 hown' hgrow _
   have hbx := below_al (Below.refl _ wr) (.cells #[.string (bs nm)] 9)
   have hrow : ∀ j, u3.ownBlock = some j → w.heap.size + 1 ≤ j := fun j e => (World.ownsRow.lt (unhide HOW) j e).1
   have N1 := hide (show Texts (w.heap.size + 1) w3 v' ((s.ms.take (k + 1)).map (fun m => m.name)) by
    rw [unhide HTK]
    unfold Texts
    simpa [scells] using hown')
   have N2 := hide (show Blk w3 w.heap.size (svc y s) 29 from (hgrow.block w.heap.size (by have := ((unhide HX).below hbx).lt; exact this) (fun e => by have := hrow _ e.symm; omega)).trans ((unhide HX).below hbx))
   have N3 := hide (show Below w.heap.size w w3 from (below_on (unhide HB) hbx).grown hgrow (by have := (unhide HB).size; have := hbx.size; omega) (fun j e => by have := hrow j e; omega))
   clear hown hown' hgrow hbx hrow HOW HX HB c0 c6
   go_wp2
   go_roundw
   case rel => exact ⟨k + 1, by omega, by go_num, N1, N2, N3⟩
   case measure => simp [intOf]; omega
  ·have k1 : ¬ (k : Int) < y.ml := by omega
   have hall : s.ms.take k = s.ms := List.take_of_length_le (by have := unhide HML; omega)
   rw [hall] at HT
   go_wp2
   go_ret
   exact ⟨_, rfl, HT, HB⟩
end Go.Proofs.YtbkchepelhkjlaaGreat

/-
 'append(own, src...)' where the source may be nil: one law for both.
-/
namespace Go.Proofs.YtbkchepelhkjlaaGreat
open Go.RowKit
set_option linter.unusedVariables false
theorem wpList_append_opt {P : Program} (w : World) {ops : Array Oper} {rest : List Oper} {o : Oper} {a : Act} {Q : Exit → Act → World → Prop} (hgd : o.guard = none) (s x : Operand) (t : TypeId)
  (ho : o.op = .call { callee := .builtin .append, args := #[s, x], argTypes := #[t, t] })
  (base : Nat) (e : TypeId) (i : TypeInfo) (z : Value) (size bytes : Nat) (ht : P.underlying t = some (.slice e)) (hi : P.info? e = some i) (hz : i.zero = some z)
  (hsize : i.size = size) (hby : i.bytes = bytes) (hzs : z.cells.size = size) (hsz : 0 < size)
  (v : Value) (n : Nat) (xs : List Value) (hs : a.eval s = v) (hown : w.ownsRow base e size v n xs)
  (ao : Option Addr) (m c : Nat) (news : List Value) (hx : a.eval x = .slice ao m c) (hn : ao = none → m = 0 ∧ c = 0) (hl : news.length = m * size) (hnews : ∀ ad, ao = some ad → ∀ j u, news[j]? = some u → w.cell? (ad.add j) = some u) (h1 : ∀ u ∈ news, u.oneCell' = true)
  (h63 : n + m ≤ maxLen) (hbytes : (n + m) * bytes ≤ 140737488355328) (hbase : base ≤ w.heap.size)
  (h : ∀ v' w', w'.ownsRow base e size v' (n + m) (xs ++ news) → w.grownBy w' v.ownBlock → (v' = .slice none 0 0 ↔ v = .slice none 0 0 ∧ m = 0) → wpList P ops Q rest (a.put o.dst v') w') : wpList P ops Q (o :: rest) a w := by
 cases ao with
 | some ad => exact wpList_append_own w hgd s x t ho base e i z size bytes ht hi hz hsize hby hzs hsz v n xs hs hown ad m c news hx hl (hnews ad rfl) h1 h63 hbytes hbase h
 | none =>
  obtain ⟨rfl, rfl⟩ := hn rfl
  obtain rfl : news = [] := List.eq_nil_of_length_eq_zero (by omega)
  refine wpList_append_own_none hgd s x t ho base e i size ht hi v n xs hs hown hx (h v w (by simpa using hown) ⟨rfl, rfl, rfl, Nat.le_refl _, fun _ _ _ => rfl⟩ (by simp))
end Go.Proofs.YtbkchepelhkjlaaGreat
