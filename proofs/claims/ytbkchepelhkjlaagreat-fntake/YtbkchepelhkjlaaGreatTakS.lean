/-
 What the model's TakeBack answers: the state that is left, in memory of its own, and what is gone; a walk over the dump.
-/
import Derived.Test.YtbkchepelhkjlaaGreatCopyS
import Derived.Test.YtbkchepelhkjlaaGreatPackT
import Derived.Test.YtbkchepelhkjlaaGreatTakE
import Derived.Deep.AppendLies
namespace Go.Proofs.YtbkchepelhkjlaaGreat
open Go.RowKit
set_option linter.unusedVariables false
set_option linter.unusedSimpArgs false
/-- without those of these numbers, and those -/
def takeV (s : St) (ids : List Int) : St × List Con :=
 if stateOkV s = true then (⟨s.qs, s.clock, s.epoch, s.next, s.serial, s.apps, s.ms, s.cs.filter (fun q => !hasI q.id ids)⟩, s.cs.filter (fun q => hasI q.id ids)) else (s, [])
theorem takeV_eq (s : St) (ids : List Int) : (stateOkV s = true → takeV s ids = (⟨s.qs, s.clock, s.epoch, s.next, s.serial, s.apps, s.ms, s.cs.filter (fun q => !hasI q.id ids)⟩, s.cs.filter (fun q => hasI q.id ids))) ∧ (stateOkV s = false → takeV s ids = (s, [])) :=
 ⟨fun h => if_pos h, fun h => if_neg (by simp [h])⟩
theorem cown_chas {B : Nat} {w : World} {ao : Option Addr} {n c : Nat} {l : List Con} (h : COwn B w (.slice ao n c) l) : n = l.length ∧ CHas B w ao n l := by
 obtain ⟨a, b, e, _, hh⟩ := cown_has h
 cases e
 exact ⟨rfl, hh⟩
/-- a row of containers grows: another of them stands -/
theorem SAns.keep {B E : Nat} {w w' : World} {x : Sls} {s : St} {hs : List AV} (h : SAns B E w x s hs) (hk : ∀ k, B ≤ k → k < E → w'.heap[k]? = w.heap[k]?) : SAns B E w' x s hs := by
 have key : ∀ {t : TypeId} {sz n : Nat} {ao : Option Addr}, Own1 B E w t sz ao n → (∀ k, inR ao n k → w'.heap[k]? = w.heap[k]?) ∧ Own1 B E w' t sz ao n := fun ho => by
  refine ⟨fun k hi => ?_, ?_⟩
  ·obtain ⟨h1, h2, _⟩ := ho.lies k hi
   exact hk k h1 h2
  ·rcases ho with e | ⟨g, M, e, h1, h2, h3, h4⟩
   ·exact .inl e
   ·exact .inr ⟨g, M, e, h1, h2, h3.of_block (hk g h1 h2), h4⟩
 have hh : Heads w' hs s.apps := ⟨h.heads.1, fun i h1 h2 => by
  obtain ⟨a, b, c, d⟩ := h.heads.2 i h1 h2
  exact ⟨a, b, c.kept (key (h.asks _ (List.getElem_mem h1))).1, d⟩⟩
 have hav := h.av.kept (key h.a).1
 exact ⟨⟨h.row.1.kept (key h.q).1, appl_of hav hh, h.row.2.2.1.kept (key h.m).1, h.row.2.2.2.kept (key h.c).1⟩, (key h.q).2, (key h.a).2, (key h.m).2, (key h.c).2, hav, hh, fun v hv => (key (h.asks v hv)).2, h.apart, h.cap, h.rm.map (fun o => (key o).2)⟩
theorem inR_own {ao : Option Addr} {n c k : Nat} (h : inR ao n k) : (Value.slice ao n c).ownBlock = some k := by
 obtain ⟨_, o, rfl⟩ := h
 simp [Value.ownBlock]
theorem cown_grown {B : Nat} {w w' : World} {v u : Value} {l : List Con} (h : COwn B w v l) (hg : w.grownBy w' u.ownBlock) (hd : ∀ k, v.ownBlock = some k → u.ownBlock ≠ some k) : COwn B w' v l :=
 World.ownsRow.kept h hg (by
  cases hv : v.ownBlock with
  | none => exact .inl rfl
  | some k => exact .inr (fun e => hd k hv e.symm))

set_option maxRecDepth 100000 in
set_option maxHeartbeats 8000000 in
theorem specTakeBack_any (x : Sls) (s : St) (hs0 : List AV) (io : Option Addr) (il ic : Nat) (ids : List Int) (w : World) (h : SRow w x s) (hav : AVRow w x.aa x.al hs0) (hhd : Heads w hs0 s.apps) (hss : SSome x hs0) (hf : FitSt s) (hi : IRow w io il ids) (hil : il ≤ 1048576) :
  Calls Tryz.prog 35 #[sv x s, .slice io il ic] w (StAns w (takeV s ids).1 (takeV s ids).2) := by
 obtain ⟨i0, hii, hz0, hz1, hz2⟩ := info_parts Tryz.infoCont
 have hlc : x.cl ≤ 1048576 := by have := hf.2.2.2.1; have := h.2.2.2.1; omega
 obtain ⟨o, ho⟩ : ∃ o, stateOkV s = o := ⟨_, rfl⟩
 have HO := hide ho
 have HV := hide (takeV_eq s ids)
 have hb0 := below_al (below_al (Below.refl _ w) (.cells (svc x s) 29)) (.cells #[.slice none 0 0, .int .i64 0, .int .i64 0, .int .i64 0, .int .i64 0, .slice none 0 0, .slice none 0 0, .slice none 0 0] 29)
 have HB0 := hide hb0
 have P0 := hide ((blk_new w (svc x s) 29).al (.cells #[.slice none 0 0, .int .i64 0, .int .i64 0, .int .i64 0, .int .i64 0, .slice none 0 0, .slice none 0 0, .slice none 0 0] 29))
 have P1 := hide (show Blk _ (w.heap.size + 1) #[.slice none 0 0, .int .i64 0, .int .i64 0, .int .i64 0, .int .i64 0, .slice none 0 0, .slice none 0 0, .slice none 0 0] 29 by have := blk_new (w.alloc (.cells (svc x s) 29)) #[.slice none 0 0, .int .i64 0, .int .i64 0, .int .i64 0, .int .i64 0, .slice none 0 0, .slice none 0 0, .slice none 0 0] 29; rwa [al_size] at this)
 have CC := hide (l04Copy_any x s hs0 _ (h.below hb0) (hav.below hb0) (hhd.below hb0) hss hf)
 have CO := hide (fun wx (hb : Below w.heap.size w wx) => by have := specStateOk_any x s wx (h.below hb) hf; rw [ho] at this; exact this)
 have CI := hide (fun wx (q : Int) (hb : Below w.heap.size w wx) => l06Id_any io il ic ids q wx (hi.below hb) hil)
 obtain ⟨qa, ql, qc, aa, al, ac, ma, ml, mc, ca, cl, cc⟩ := x
 obtain ⟨qs, clock, epoch, next, serial, apps, ms, cs⟩ := s
 simp only at *
 have RC := hide (show ConRow w ca cl cs from h.2.2.2)
 have HLC := hide (show cl = cs.length from h.2.2.2.1)
 clear h hb0 hf ho hav hhd hss hi hil
 go_enter Tryz.func35, Tryz.ntmps35
 go_wp2_with fail
 refine (unhide CC).mono ?_
 rintro e w2 ⟨y, hs, rfl, ha, hb⟩
 obtain ⟨yqa, yql, yqc, yaa, yal, yac, yma, yml, ymc, yca, ycl, ycc⟩ := y
 rw [al_size, al_size] at ha
 have b3 := below_al (Below.refl _ w2) (.cells #[.slice yqa yql yqc, .int .i64 clock, .int .i64 epoch, .int .i64 next, .int .i64 serial, .slice yaa yal yac, .slice yma yml ymc, .slice yca ycl ycc] 29)
 have b4 := below_al b3 (.cells #[] 70)
 have H3 := hide (ha.below b4)
 have P3 := hide ((((unhide P0).below hb).al (.cells #[.slice yqa yql yqc, .int .i64 clock, .int .i64 epoch, .int .i64 next, .int .i64 serial, .slice yaa yal yac, .slice yma yml ymc, .slice yca ycl ycc] 29)).al (.cells #[] 70))
 have R3 := hide ((((unhide P1).below hb).al (.cells #[.slice yqa yql yqc, .int .i64 clock, .int .i64 epoch, .int .i64 next, .int .i64 serial, .slice yaa yal yac, .slice yma yml ymc, .slice yca ycl ycc] 29)).al (.cells #[] 70))
 have O3 := hide ((blk_new w2 #[.slice yqa yql yqc, .int .i64 clock, .int .i64 epoch, .int .i64 next, .int .i64 serial, .slice yaa yal yac, .slice yma yml ymc, .slice yca ycl ycc] 29).al (.cells #[] 70))
 have G3 := hide (show COwn (w2.heap.size + 1) _ (.slice (some ⟨w2.heap.size + 1, 0, none⟩) 0 0) [] by have := cown_empty (w2.alloc (.cells #[.slice yqa yql yqc, .int .i64 clock, .int .i64 epoch, .int .i64 next, .int .i64 serial, .slice yaa yal yac, .slice yma yml ymc, .slice yca ycl ycc] 29)); rw [al_size] at this; exact this)
 have B3 := hide (below_on (below_on (unhide HB0) hb) b4)
 have hz2' : w.heap.size + 2 ≤ w2.heap.size := by have := hb.size; rw [al_size, al_size] at this; omega
 obtain ⟨b, hbb⟩ : ∃ b, w2.heap.size = b := ⟨_, rfl⟩
 have HBB := hide hbb
 have a0 := (unhide P3).at 0; have a1 := (unhide P3).at 1; have a2 := (unhide P3).at 2; have a3 := (unhide P3).at 3; have a4 := (unhide P3).at 4; have a5 := (unhide P3).at 5; have a6 := (unhide P3).at 6; have a7 := (unhide P3).at 7
 simp at a0 a1 a2 a3 a4 a5 a6 a7
 clear ha hb HB0 P0 P1 CC b3 b4 hbb
 go_wp2_with fail
 refine (unhide CO _ (unhide B3)).mono ?_
 rintro e w6 ⟨rfl, hb⟩
 have B6 := hide (below_on (unhide B3) hb)
 have H6 := hide (show SAns (w.heap.size + 2) b w6 ⟨yqa, yql, yqc, yaa, yal, yac, yma, yml, ymc, yca, ycl, ycc⟩ ⟨qs, clock, epoch, next, serial, apps, ms, cs⟩ hs by have := (unhide H3).below hb; rw [unhide HBB] at this; exact this)
 have P6 := hide ((unhide P3).below hb)
 have R6 := hide ((unhide R3).below hb)
 have O6 := hide (show Blk w6 b _ 29 by have := (unhide O3).below hb; rw [unhide HBB] at this; exact this)
 have G6o := hide (show COwn (b + 1) w6 (.slice (some ⟨b + 1, 0, none⟩) 0 0) [] by have := cown_below (unhide G3) hb; rw [unhide HBB] at this; exact this)
 have hz6 : b < w6.heap.size := (unhide O6).lt
 have hb2 : w.heap.size + 2 ≤ b := by have := unhide HBB; omega
 rw [unhide HBB]
 clear hb B3 H3 R3 O3 P3 G3 a0 a1 a2 a3 a4 a5 a6 a7 CO
 cases o
 case false =>
  have H6s := hide ((unhide H6).has (Nat.le_of_lt hz6))
  have G6 := hide (show CHas (w.heap.size + 2) w6 (some ⟨b + 1, 0, none⟩) 0 [] from ⟨⟨rfl, .inl rfl⟩, .inl rfl⟩)
  have c0 := (unhide R6).at 0; have c1 := (unhide R6).at 1; have c2 := (unhide R6).at 2; have c3 := (unhide R6).at 3; have c4 := (unhide R6).at 4; have c5 := (unhide R6).at 5; have c6 := (unhide R6).at 6; have c7 := (unhide R6).at 7
  have f0 := (unhide R6).f 0; have f1 := (unhide R6).f 1; have f2 := (unhide R6).f 2; have f3 := (unhide R6).f 3; have f4 := (unhide R6).f 4; have f5 := (unhide R6).f 5; have f6 := (unhide R6).f 6; have f7 := (unhide R6).f 7
  have a0 := (unhide O6).at 0; have a1 := (unhide O6).at 1; have a2 := (unhide O6).at 2; have a3 := (unhide O6).at 3; have a4 := (unhide O6).at 4; have a5 := (unhide O6).at 5; have a6 := (unhide O6).at 6; have a7 := (unhide O6).at 7
  simp at a0 a1 a2 a3 a4 a5 a6 a7 c0 c1 c2 c3 c4 c5 c6 c7
  go_wp2
  have RR := hide (show Blk ((((((((w6.setCell ⟨w.heap.size + 1, 0, none⟩ (.slice yqa yql yqc)).setCell ⟨w.heap.size + 1, 1, none⟩ (.int .i64 clock)).setCell ⟨w.heap.size + 1, 2, none⟩ (.int .i64 epoch)).setCell ⟨w.heap.size + 1, 3, none⟩ (.int .i64 next)).setCell ⟨w.heap.size + 1, 4, none⟩ (.int .i64 serial)).setCell ⟨w.heap.size + 1, 5, none⟩ (.slice yaa yal yac)).setCell ⟨w.heap.size + 1, 6, none⟩ (.slice yma yml ymc)).setCell ⟨w.heap.size + 1, 7, none⟩ (.slice yca ycl ycc)) (w.heap.size + 1) #[.slice yqa yql yqc, .int .i64 clock, .int .i64 epoch, .int .i64 next, .int .i64 serial, .slice yaa yal yac, .slice yma yml ymc, .slice yca ycl ycc] 29 from (((((((((unhide R6).set 0 (.slice yqa yql yqc)).set 1 (.int .i64 clock)).set 2 (.int .i64 epoch)).set 3 (.int .i64 next)).set 4 (.int .i64 serial)).set 5 (.slice yaa yal yac)).set 6 (.slice yma yml ymc)).set 7 (.slice yca ycl ycc)))
  have H9 := hide (((((((((unhide H6s).sc (k := w.heap.size + 1) (j := 0) (v := .slice yqa yql yqc) (by omega)).sc (k := w.heap.size + 1) (j := 1) (v := .int .i64 clock) (by omega)).sc (k := w.heap.size + 1) (j := 2) (v := .int .i64 epoch) (by omega)).sc (k := w.heap.size + 1) (j := 3) (v := .int .i64 next) (by omega)).sc (k := w.heap.size + 1) (j := 4) (v := .int .i64 serial) (by omega)).sc (k := w.heap.size + 1) (j := 5) (v := .slice yaa yal yac) (by omega)).sc (k := w.heap.size + 1) (j := 6) (v := .slice yma yml ymc) (by omega)).sc (k := w.heap.size + 1) (j := 7) (v := .slice yca ycl ycc) (by omega))
  have B9 := hide (below_sc (below_sc (below_sc (below_sc (below_sc (below_sc (below_sc (below_sc (unhide B6) (w.heap.size + 1) 0 (.slice yqa yql yqc) (by omega)) (w.heap.size + 1) 1 (.int .i64 clock) (by omega)) (w.heap.size + 1) 2 (.int .i64 epoch) (by omega)) (w.heap.size + 1) 3 (.int .i64 next) (by omega)) (w.heap.size + 1) 4 (.int .i64 serial) (by omega)) (w.heap.size + 1) 5 (.slice yaa yal yac) (by omega)) (w.heap.size + 1) 6 (.slice yma yml ymc) (by omega)) (w.heap.size + 1) 7 (.slice yca ycl ycc) (by omega))
  generalize ((((((((w6.setCell ⟨w.heap.size + 1, 0, none⟩ (.slice yqa yql yqc)).setCell ⟨w.heap.size + 1, 1, none⟩ (.int .i64 clock)).setCell ⟨w.heap.size + 1, 2, none⟩ (.int .i64 epoch)).setCell ⟨w.heap.size + 1, 3, none⟩ (.int .i64 next)).setCell ⟨w.heap.size + 1, 4, none⟩ (.int .i64 serial)).setCell ⟨w.heap.size + 1, 5, none⟩ (.slice yaa yal yac)).setCell ⟨w.heap.size + 1, 6, none⟩ (.slice yma yml ymc)).setCell ⟨w.heap.size + 1, 7, none⟩ (.slice yca ycl ycc)) = W9 at RR H9 B9 ⊢
  have z0 := (unhide RR).at 0; have z1 := (unhide RR).at 1; have z2 := (unhide RR).at 2; have z3 := (unhide RR).at 3; have z4 := (unhide RR).at 4; have z5 := (unhide RR).at 5; have z6 := (unhide RR).at 6; have z7 := (unhide RR).at 7
  simp at z0 z1 z2 z3 z4 z5 z6 z7
  refine bodyPost_ret (v := .tuple #[.agg #[.slice yqa yql yqc, .int .i64 clock, .int .i64 epoch, .int .i64 next, .int .i64 serial, .slice yaa yal yac, .slice yma yml ymc, .slice yca ycl ycc], .slice (some ⟨b + 1, 0, none⟩) 0 0]) (by simp [results, Tryz.results35, go_sem, z0, z1, z2, z3, z4, z5, z6, z7]) rfl ?_
  rw [(unhide HV).2 (unhide HO)]
  exact ⟨⟨yqa, yql, yqc, yaa, yal, yac, yma, yml, ymc, yca, ycl, ycc⟩, hs, some ⟨b + 1, 0, none⟩, 0, 0, rfl, (unhide H9).ans.mono (by omega) (Nat.le_refl _), ⟨⟨rfl, .inl rfl⟩, .inl rfl⟩, fun k hk => absurd rfl hk.1, unhide B9⟩
 have hb1 := below_al (Below.refl _ w6) (.cells #[] 70)
 have L7 := hide (show COwn w6.heap.size (w6.alloc (.cells #[] 70)) (.slice (some ⟨w6.heap.size, 0, none⟩) 0 0) [] from cown_empty w6)
 have H7 := hide ((unhide H6).below hb1)
 have P7 := hide ((unhide P6).below hb1)
 have R7 := hide ((unhide R6).below hb1)
 have O7 := hide ((unhide O6).below hb1)
 have G7 := hide (cown_below (unhide G6o) hb1)
 have B7 := hide (below_on (unhide B6) hb1)
 have hLT := hide (show ∀ k, (Value.slice (some ⟨b + 1, 0, none⟩) 0 0).ownBlock = some k → k < w6.heap.size from fun k e => (World.ownsRow.lt (unhide G6o) k e).2)
 obtain ⟨gl, hgl⟩ : ∃ g, w6.heap.size = g := ⟨_, rfl⟩
 have HGL := hide hgl
 clear hb1 H6 P6 R6 O6 G6o B6 hgl
 go_upto_region 6 with fail
 generalize w6.alloc (.cells #[] 70) = w7 at L7 H7 P7 R7 O7 G7 B7 ⊢
 go_wp2
 go_loopw [7, 8, 9] (fun v u i wr => ∃ (k : Nat), k ≤ cl ∧ i = .int .i64 k ∧ Hid (COwn (b + 1) wr v ((cs.take k).filter (fun q => hasI q.id ids)) ∧ COwn (b + 1) wr u ((cs.take k).filter (fun q => !hasI q.id ids)) ∧ ∀ k, v.ownBlock = some k → u.ownBlock ≠ some k) ∧ Hid (SAns (w.heap.size + 2) b wr ⟨yqa, yql, yqc, yaa, yal, yac, yma, yml, ymc, yca, ycl, ycc⟩ ⟨qs, clock, epoch, next, serial, apps, ms, cs⟩ hs) ∧ Hid (Blk wr w.heap.size #[.slice qa ql qc, .int .i64 clock, .int .i64 epoch, .int .i64 next, .int .i64 serial, .slice aa al ac, .slice ma ml mc, .slice ca cl cc] 29 ∧ Blk wr (w.heap.size + 1) #[.slice none 0 0, .int .i64 0, .int .i64 0, .int .i64 0, .int .i64 0, .slice none 0 0, .slice none 0 0, .slice none 0 0] 29 ∧ Blk wr b #[.slice yqa yql yqc, .int .i64 clock, .int .i64 epoch, .int .i64 next, .int .i64 serial, .slice yaa yal yac, .slice yma yml ymc, .slice yca ycl ycc] 29) ∧ Hid (Below w.heap.size w wr) ∧ b < wr.heap.size) (fun _ _ i _ => cl - (intOf i).toNat)
 case atStart =>
  refine ⟨0, Nat.zero_le _, rfl, hide ⟨by simpa using unhide G7, by simpa using cown_base (unhide L7) (by omega), fun k e e2 => ?_⟩, H7, hide ⟨unhide P7, unhide R7, unhide O7⟩, B7, (unhide O7).lt⟩
  have h1 := unhide hLT k e
  have h2 : w6.heap.size = k := by simpa [Value.ownBlock] using e2
  omega
 case round =>
  clear L7 H7 P7 R7 O7 G7 B7 hLT
  obtain ⟨k, hk, rfl, HO2, HH, HBK, HB, hzr⟩ := hrel
  obtain ⟨h1, h2, h3⟩ := unhide HO2
  obtain ⟨vo, vc, rfl, _, hvh⟩ := cown_has h1
  obtain ⟨uo, uc, rfl, huc, huh⟩ := cown_has h2
  have p7 := (unhide HBK).1.at 7
  simp at p7
  by_cases hlt : k < cl
  ·obtain ⟨b', off, rfl, hq⟩ := ((unhide RC).below (unhide HB)).at hlt
   have hkl : k < cs.length := by have := unhide HLC; omega
   obtain ⟨c0, c1, c2, c3, c4⟩ := hq hkl
   have htk : cs.take (k + 1) = cs.take k ++ [cs[k]] := List.take_succ_eq_append_getElem hkl
   obtain ⟨q, hqe⟩ : ∃ q, cs[k] = q := ⟨_, rfl⟩
   rw [hqe] at c0 c1 c2 c3 c4 htk
   obtain ⟨id, ap, nd, me, cp⟩ := q
   simp only at c0 c1 c2 c3 c4
   have hst1 : (cs.take (k + 1)).filter (fun q => hasI q.id ids) = (cs.take k).filter (fun q => hasI q.id ids) ++ (if hasI id ids = true then [⟨id, ap, nd, me, cp⟩] else []) := by
    rw [htk, List.filter_append]
    cases hc : hasI id ids <;> simp [hc]
   have hst2 : (cs.take (k + 1)).filter (fun q => !hasI q.id ids) = (cs.take k).filter (fun q => !hasI q.id ids) ++ (if (!hasI id ids) = true then [⟨id, ap, nd, me, cp⟩] else []) := by
    rw [htk, List.filter_append]
    cases hc : hasI id ids <;> simp [hc]
   have hl1 : ((cs.take k).filter (fun q => hasI q.id ids)).length ≤ 1048576 := by have := List.length_filter_le (fun q : Con => hasI q.id ids) (cs.take k); rw [List.length_take] at this; omega
   have hl2 : ((cs.take k).filter (fun q => !hasI q.id ids)).length ≤ 1048576 := by have := List.length_filter_le (fun q : Con => !hasI q.id ids) (cs.take k); rw [List.length_take] at this; omega
   obtain ⟨VL, hVL⟩ : ∃ l, (cs.take k).filter (fun q => hasI q.id ids) = l := ⟨_, rfl⟩
   obtain ⟨UL, hUL⟩ : ∃ l, (cs.take k).filter (fun q => !hasI q.id ids) = l := ⟨_, rfl⟩
   rw [hVL] at h1 h3 hst1 hl1 ⊢
   rw [hUL] at h2 h3 hst2 hl2 ⊢
   obtain ⟨vn, hvn⟩ : ∃ n, VL.length = n := ⟨_, rfl⟩
   obtain ⟨un, hun⟩ : ∃ n, UL.length = n := ⟨_, rfl⟩
   rw [hvn] at h1 h3 hl1 ⊢
   rw [hun] at h2 h3 hl2 ⊢
   have HVLx := hide hvn
   have HULx := hide hun
   have Ch1 := hide h1
   have Ch2 := hide h2
   have Oh1 := hide (show wr.ownsRow (b + 1) 70 5 (.slice vo vn vc) vn (ccells VL) by have := h1; unfold COwn at this; rwa [hvn] at this)
   have Oh2 := hide (show wr.ownsRow (b + 1) 70 5 (.slice uo un uc) un (ccells UL) by have := h2; unfold COwn at this; rwa [hun] at this)
   have HDJ := hide h3
   have HUL := hide (fun k e => (World.ownsRow.lt (unhide Oh2) k e).2)
   have HVL := hide (fun k e => (World.ownsRow.lt (unhide Oh1) k e).2)
   have HCI := hide (unhide CI wr id (unhide HB))
   have j0 : (0 : Int) ≤ k := by omega
   have j1 : (k : Int) < cl := by omega
   clear hq hqe hkl htk h1 h2 h3 hvh huh huc HO2 hVL hUL hvn hun
   cases hpq : hasI id ids with
   | true =>
    rw [hpq] at hst1 hst2 HCI
    simp only [Bool.not_true, Bool.not_false, if_true, if_false, List.append_nil, Bool.false_eq_true] at hst1 hst2
    have HST1 := hide hst1
    have HST2 := hide hst2
    clear hpq hst1 hst2
    go_wp2_with fail
    refine (unhide HCI).mono ?_
    rintro e w1 ⟨rfl, rfl⟩
    clear HCI
    go_wp2_with (at_builtin; refine wpList_append_lies _ rfl _ _ 27 rfl (b + 1) 70 i0 (.agg #[.int .i64 0, .int .i64 0, .string ByteArray.empty, .int .i64 0, .int .i64 0]) 5 48 Tryz.underlying27 hii hz0 hz1 hz2 rfl (by decide) _ _ _ rfl ((unhide Oh1).alloc _) ⟨wr.heap.size, 0, none⟩ 1 1 (ccell ⟨id, ap, nd, me, cp⟩) rfl rfl ?c1 ?c2 (by decide) ?c3 ?c4 ?c5 _ rfl ?_)
    case c1 => exact World.news_of_block (blk_new wr #[.int .i64 id, .int .i64 ap, .string (bs nd), .int .i64 me, .int .i64 cp] 70)
    case c2 => intro u hu; simp at hu; rcases hu with rfl | rfl | rfl | rfl | rfl <;> rfl
    case c3 => unfold maxLen; omega
    case c4 => omega
    case c5 => simp; omega
    intro ng nc w3 hown' hgrow hlies _
    have N1 := hide (show COwn (b + 1) w3 (.slice (some ⟨ng, 0, none⟩) (vn + 1) nc) (VL ++ [⟨id, ap, nd, me, cp⟩]) by
     unfold COwn
     rw [ccells_app, List.length_append, unhide HVLx]
     exact hown')
    have hbx := below_al (Below.refl _ wr) (.cells #[.int .i64 id, .int .i64 ap, .string (bs nd), .int .i64 me, .int .i64 cp] 70)
    have N2 := hide (show COwn (b + 1) w3 (.slice uo un uc) UL from cown_grown (cown_below (unhide Ch2) hbx) hgrow (fun k e e2 => unhide HDJ k e2 e))
    have N3 := hide (show ∀ k, (Value.slice (some ⟨ng, 0, none⟩) (vn + 1) nc).ownBlock = some k → (Value.slice uo un uc).ownBlock ≠ some k from fun k e e2 => by
     have eg : ng = k := by simpa [Value.ownBlock] using e
     subst eg
     rcases hlies with e3 | e3
     ·exact unhide HDJ ng e3 e2
     ·have := unhide HUL ng e2
      omega)
    have hrow : ∀ k, (Value.slice vo vn vc).ownBlock = some k → b + 1 ≤ k ∧ ∃ N, Cel (wr.alloc (.cells #[.int .i64 id, .int .i64 ap, .string (bs nd), .int .i64 me, .int .i64 cp] 70)) 70 k N := fun k e => by
     obtain ⟨N, hc⟩ := owns_cel (unhide Oh1) k e
     exact ⟨(World.ownsRow.lt (unhide Oh1) k e).1, N, hc.below hbx⟩
    have HHn := hide (((unhide HH).below hbx).keep (w' := w3) (fun k h1 h2 => hgrow.block k (by have := hbx.size; simp at this ⊢; omega) (fun e => by have := (hrow k e.symm).1; omega)))
    have HBKn := hide (show Blk w3 w.heap.size _ 29 ∧ Blk w3 (w.heap.size + 1) #[.slice none 0 0, .int .i64 0, .int .i64 0, .int .i64 0, .int .i64 0, .slice none 0 0, .slice none 0 0, .slice none 0 0] 29 ∧ Blk w3 b #[.slice yqa yql yqc, .int .i64 clock, .int .i64 epoch, .int .i64 next, .int .i64 serial, .slice yaa yal yac, .slice yma yml ymc, .slice yca ycl ycc] 29 from ⟨((unhide HBK).1.below hbx).grown hgrow (fun k e => (hrow k e).2) (by decide), ((unhide HBK).2.1.below hbx).grown hgrow (fun k e => (hrow k e).2) (by decide), ((unhide HBK).2.2.below hbx).grown hgrow (fun k e => (hrow k e).2) (by decide)⟩)
    have HBn := hide (show Below w.heap.size w w3 from (below_on (unhide HB) hbx).grown hgrow (by have := (unhide HB).size; simp; omega) (fun k e => by have := (hrow k e).1; omega))
    have hzn : b < w3.heap.size := (unhide HBKn).2.2.lt
    clear hown' hgrow hlies hbx hrow c0 c1 c2 c3 c4 HH HBK HB
    go_wp2
    go_roundw
    case rel => exact ⟨k + 1, by omega, by go_num, hide ⟨by rw [unhide HST1]; exact unhide N1, by rw [unhide HST2]; exact unhide N2, unhide N3⟩, HHn, HBKn, HBn, hzn⟩
    case measure => simp [intOf]; omega
   | false =>
    rw [hpq] at hst1 hst2 HCI
    simp only [Bool.not_true, Bool.not_false, if_true, if_false, List.append_nil, Bool.false_eq_true] at hst1 hst2
    have HST1 := hide hst1
    have HST2 := hide hst2
    clear hpq hst1 hst2
    go_wp2_with fail
    refine (unhide HCI).mono ?_
    rintro e w1 ⟨rfl, rfl⟩
    clear HCI
    go_wp2_with (at_builtin; refine wpList_append_lies _ rfl _ _ 27 rfl (b + 1) 70 i0 (.agg #[.int .i64 0, .int .i64 0, .string ByteArray.empty, .int .i64 0, .int .i64 0]) 5 48 Tryz.underlying27 hii hz0 hz1 hz2 rfl (by decide) _ _ _ rfl ((unhide Oh2).alloc _) ⟨wr.heap.size, 0, none⟩ 1 1 (ccell ⟨id, ap, nd, me, cp⟩) rfl rfl ?c1 ?c2 (by decide) ?c3 ?c4 ?c5 _ rfl ?_)
    case c1 => exact World.news_of_block (blk_new wr #[.int .i64 id, .int .i64 ap, .string (bs nd), .int .i64 me, .int .i64 cp] 70)
    case c2 => intro u hu; simp at hu; rcases hu with rfl | rfl | rfl | rfl | rfl <;> rfl
    case c3 => unfold maxLen; omega
    case c4 => omega
    case c5 => simp; omega
    intro ng nc w3 hown' hgrow hlies _
    have N1 := hide (show COwn (b + 1) w3 (.slice (some ⟨ng, 0, none⟩) (un + 1) nc) (UL ++ [⟨id, ap, nd, me, cp⟩]) by
     unfold COwn
     rw [ccells_app, List.length_append, unhide HULx]
     exact hown')
    have hbx := below_al (Below.refl _ wr) (.cells #[.int .i64 id, .int .i64 ap, .string (bs nd), .int .i64 me, .int .i64 cp] 70)
    have N2 := hide (show COwn (b + 1) w3 (.slice vo vn vc) VL from cown_grown (cown_below (unhide Ch1) hbx) hgrow (fun k e e2 => unhide HDJ k e e2))
    have N3 := hide (show ∀ k, (Value.slice vo vn vc).ownBlock = some k → (Value.slice (some ⟨ng, 0, none⟩) (un + 1) nc).ownBlock ≠ some k from fun k e e2 => by
     have eg : ng = k := by simpa [Value.ownBlock] using e2
     subst eg
     rcases hlies with e3 | e3
     ·exact unhide HDJ ng e e3
     ·have := unhide HVL ng e
      omega)
    have hrow : ∀ k, (Value.slice uo un uc).ownBlock = some k → b + 1 ≤ k ∧ ∃ N, Cel (wr.alloc (.cells #[.int .i64 id, .int .i64 ap, .string (bs nd), .int .i64 me, .int .i64 cp] 70)) 70 k N := fun k e => by
     obtain ⟨N, hc⟩ := owns_cel (unhide Oh2) k e
     exact ⟨(World.ownsRow.lt (unhide Oh2) k e).1, N, hc.below hbx⟩
    have HHn := hide (((unhide HH).below hbx).keep (w' := w3) (fun k h1 h2 => hgrow.block k (by have := hbx.size; simp at this ⊢; omega) (fun e => by have := (hrow k e.symm).1; omega)))
    have HBKn := hide (show Blk w3 w.heap.size _ 29 ∧ Blk w3 (w.heap.size + 1) #[.slice none 0 0, .int .i64 0, .int .i64 0, .int .i64 0, .int .i64 0, .slice none 0 0, .slice none 0 0, .slice none 0 0] 29 ∧ Blk w3 b #[.slice yqa yql yqc, .int .i64 clock, .int .i64 epoch, .int .i64 next, .int .i64 serial, .slice yaa yal yac, .slice yma yml ymc, .slice yca ycl ycc] 29 from ⟨((unhide HBK).1.below hbx).grown hgrow (fun k e => (hrow k e).2) (by decide), ((unhide HBK).2.1.below hbx).grown hgrow (fun k e => (hrow k e).2) (by decide), ((unhide HBK).2.2.below hbx).grown hgrow (fun k e => (hrow k e).2) (by decide)⟩)
    have HBn := hide (show Below w.heap.size w w3 from (below_on (unhide HB) hbx).grown hgrow (by have := (unhide HB).size; simp; omega) (fun k e => by have := (hrow k e).1; omega))
    have hzn : b < w3.heap.size := (unhide HBKn).2.2.lt
    clear hown' hgrow hlies hbx hrow c0 c1 c2 c3 c4 HH HBK HB
    go_wp2
    go_roundw
    case rel => exact ⟨k + 1, by omega, by go_num, hide ⟨by rw [unhide HST1]; exact unhide N2, by rw [unhide HST2]; exact unhide N1, unhide N3⟩, HHn, HBKn, HBn, hzn⟩
    case measure => simp [intOf]; omega
  ·obtain rfl : k = cl := by omega
   have htk : cs.take k = cs := List.take_of_length_le (by have := unhide HLC; omega)
   rw [htk] at h1 h2 h3 hvh huh huc ⊢
   obtain ⟨VL, hVL⟩ : ∃ l, cs.filter (fun q => hasI q.id ids) = l := ⟨_, rfl⟩
   obtain ⟨UL, hUL⟩ : ∃ l, cs.filter (fun q => !hasI q.id ids) = l := ⟨_, rfl⟩
   have HVLe := hide hVL
   have HULe := hide hUL
   rw [hVL] at h1 h3 hvh ⊢
   rw [hUL] at h2 h3 huh huc ⊢
   obtain ⟨gn, hgn⟩ : ∃ n, VL.length = n := ⟨_, rfl⟩
   obtain ⟨nl, hnl⟩ : ∃ n, UL.length = n := ⟨_, rfl⟩
   rw [hgn] at h1 h3 hvh ⊢
   rw [hnl] at h2 h3 huh huc ⊢
   have HUC := hide huc
   have HG := hide hvh
   have HL := hide huh
   have HULo := hide (own1_of h2)
   have HDJ := hide h3
   have j1 : ¬ (k : Int) < k := by omega
   have e7 := (unhide HBK).2.2.at 7
   have f7 := (unhide HBK).2.2.f 7
   simp at e7
   clear h1 h2 h3 hvh huh huc htk hlt HO2 hVL hUL hgn hnl
   go_upto_region 13 with fail
   obtain ⟨lo, hlo⟩ : ∃ l, uo = l := ⟨_, rfl⟩
   obtain ⟨lc, hlc'⟩ : ∃ l, uc = l := ⟨_, rfl⟩
   subst hlo hlc'
   have hm : Mks (fun k => k = b) wr (wr.setCell ⟨b, 7, none⟩ (.slice uo nl uc)) := Mks.one _ _ _ _ _ rfl
   have H9 := hide (show SHas (w.heap.size + 2) (wr.setCell ⟨b, 7, none⟩ (.slice uo nl uc)) ⟨yqa, yql, yqc, yaa, yal, yac, yma, yml, ymc, uo, nl, uc⟩ ⟨qs, clock, epoch, next, serial, apps, ms, UL⟩ hs from by
    have hh := (unhide HH).has (Nat.le_of_lt hzr)
    have hx := hh.mkt hm (unhide HBK).2.2
    exact ⟨hx.q, hx.p, hx.k, hx.m, ((unhide HL).mkt hm (unhide HBK).2.2).base (by omega), ⟨hx.cap.q, hx.cap.a, hx.cap.m, unhide HUC⟩, ⟨hx.rm.1, hx.rm.2.1, hx.rm.2.2.1, ((unhide HULo).sc b 7 _).mono (by omega) (by rw [set_size]; exact Nat.le_refl _), hx.rm.2.2.2.2⟩⟩)
   have G9 := hide (((unhide HG).mkt hm (unhide HBK).2.2).base (B' := w.heap.size + 2) (by omega))
   have R9 := hide ((unhide HBK).2.1.other b 7 (.slice uo nl uc) (by omega))
   have O9 := hide (show Blk (wr.setCell ⟨b, 7, none⟩ (.slice uo nl uc)) b #[.slice yqa yql yqc, .int .i64 clock, .int .i64 epoch, .int .i64 next, .int .i64 serial, .slice yaa yal yac, .slice yma yml ymc, .slice uo nl uc] 29 from (unhide HBK).2.2.set 7 _)
   have B9 := hide (below_sc (unhide HB) b 7 (.slice uo nl uc) (by omega))
   generalize wr.setCell ⟨b, 7, none⟩ (.slice uo nl uc) = w9 at H9 G9 R9 O9 B9 ⊢
   clear hm e7 f7 HBK HB HH p7
   have c0 := (unhide R9).at 0; have c1 := (unhide R9).at 1; have c2 := (unhide R9).at 2; have c3 := (unhide R9).at 3; have c4 := (unhide R9).at 4; have c5 := (unhide R9).at 5; have c6 := (unhide R9).at 6; have c7 := (unhide R9).at 7
   have f0 := (unhide R9).f 0; have f1 := (unhide R9).f 1; have f2 := (unhide R9).f 2; have f3 := (unhide R9).f 3; have f4 := (unhide R9).f 4; have f5 := (unhide R9).f 5; have f6 := (unhide R9).f 6; have f7 := (unhide R9).f 7
   have a0 := (unhide O9).at 0; have a1 := (unhide O9).at 1; have a2 := (unhide O9).at 2; have a3 := (unhide O9).at 3; have a4 := (unhide O9).at 4; have a5 := (unhide O9).at 5; have a6 := (unhide O9).at 6; have a7 := (unhide O9).at 7
   simp at a0 a1 a2 a3 a4 a5 a6 a7 c0 c1 c2 c3 c4 c5 c6 c7
   go_wp2
   have RR := hide (show Blk ((((((((w9.setCell ⟨w.heap.size + 1, 0, none⟩ (.slice yqa yql yqc)).setCell ⟨w.heap.size + 1, 1, none⟩ (.int .i64 clock)).setCell ⟨w.heap.size + 1, 2, none⟩ (.int .i64 epoch)).setCell ⟨w.heap.size + 1, 3, none⟩ (.int .i64 next)).setCell ⟨w.heap.size + 1, 4, none⟩ (.int .i64 serial)).setCell ⟨w.heap.size + 1, 5, none⟩ (.slice yaa yal yac)).setCell ⟨w.heap.size + 1, 6, none⟩ (.slice yma yml ymc)).setCell ⟨w.heap.size + 1, 7, none⟩ (.slice uo nl uc)) (w.heap.size + 1) #[.slice yqa yql yqc, .int .i64 clock, .int .i64 epoch, .int .i64 next, .int .i64 serial, .slice yaa yal yac, .slice yma yml ymc, .slice uo nl uc] 29 from (((((((((unhide R9).set 0 (.slice yqa yql yqc)).set 1 (.int .i64 clock)).set 2 (.int .i64 epoch)).set 3 (.int .i64 next)).set 4 (.int .i64 serial)).set 5 (.slice yaa yal yac)).set 6 (.slice yma yml ymc)).set 7 (.slice uo nl uc)))
   have HX := hide (((((((((unhide H9).sc (k := w.heap.size + 1) (j := 0) (v := .slice yqa yql yqc) (by omega)).sc (k := w.heap.size + 1) (j := 1) (v := .int .i64 clock) (by omega)).sc (k := w.heap.size + 1) (j := 2) (v := .int .i64 epoch) (by omega)).sc (k := w.heap.size + 1) (j := 3) (v := .int .i64 next) (by omega)).sc (k := w.heap.size + 1) (j := 4) (v := .int .i64 serial) (by omega)).sc (k := w.heap.size + 1) (j := 5) (v := .slice yaa yal yac) (by omega)).sc (k := w.heap.size + 1) (j := 6) (v := .slice yma yml ymc) (by omega)).sc (k := w.heap.size + 1) (j := 7) (v := .slice uo nl uc) (by omega))
   have GX := hide (((((((((unhide G9).sc (k := w.heap.size + 1) (j := 0) (v := .slice yqa yql yqc) (by omega)).sc (k := w.heap.size + 1) (j := 1) (v := .int .i64 clock) (by omega)).sc (k := w.heap.size + 1) (j := 2) (v := .int .i64 epoch) (by omega)).sc (k := w.heap.size + 1) (j := 3) (v := .int .i64 next) (by omega)).sc (k := w.heap.size + 1) (j := 4) (v := .int .i64 serial) (by omega)).sc (k := w.heap.size + 1) (j := 5) (v := .slice yaa yal yac) (by omega)).sc (k := w.heap.size + 1) (j := 6) (v := .slice yma yml ymc) (by omega)).sc (k := w.heap.size + 1) (j := 7) (v := .slice uo nl uc) (by omega))
   have BX := hide (below_sc (below_sc (below_sc (below_sc (below_sc (below_sc (below_sc (below_sc (unhide B9) (w.heap.size + 1) 0 (.slice yqa yql yqc) (by omega)) (w.heap.size + 1) 1 (.int .i64 clock) (by omega)) (w.heap.size + 1) 2 (.int .i64 epoch) (by omega)) (w.heap.size + 1) 3 (.int .i64 next) (by omega)) (w.heap.size + 1) 4 (.int .i64 serial) (by omega)) (w.heap.size + 1) 5 (.slice yaa yal yac) (by omega)) (w.heap.size + 1) 6 (.slice yma yml ymc) (by omega)) (w.heap.size + 1) 7 (.slice uo nl uc) (by omega))
   generalize ((((((((w9.setCell ⟨w.heap.size + 1, 0, none⟩ (.slice yqa yql yqc)).setCell ⟨w.heap.size + 1, 1, none⟩ (.int .i64 clock)).setCell ⟨w.heap.size + 1, 2, none⟩ (.int .i64 epoch)).setCell ⟨w.heap.size + 1, 3, none⟩ (.int .i64 next)).setCell ⟨w.heap.size + 1, 4, none⟩ (.int .i64 serial)).setCell ⟨w.heap.size + 1, 5, none⟩ (.slice yaa yal yac)).setCell ⟨w.heap.size + 1, 6, none⟩ (.slice yma yml ymc)).setCell ⟨w.heap.size + 1, 7, none⟩ (.slice uo nl uc)) = W9 at RR HX GX BX ⊢
   have z0 := (unhide RR).at 0; have z1 := (unhide RR).at 1; have z2 := (unhide RR).at 2; have z3 := (unhide RR).at 3; have z4 := (unhide RR).at 4; have z5 := (unhide RR).at 5; have z6 := (unhide RR).at 6; have z7 := (unhide RR).at 7
   simp at z0 z1 z2 z3 z4 z5 z6 z7
   refine bodyPost_ret (v := .tuple #[.agg #[.slice yqa yql yqc, .int .i64 clock, .int .i64 epoch, .int .i64 next, .int .i64 serial, .slice yaa yal yac, .slice yma yml ymc, .slice uo nl uc], .slice vo gn vc]) (by simp [results, Tryz.results35, go_sem, z0, z1, z2, z3, z4, z5, z6, z7]) rfl ?_
   rw [(unhide HV).1 (unhide HO)]
   simp only
   rw [unhide HVLe, unhide HULe]
   exact ⟨⟨yqa, yql, yqc, yaa, yal, yac, yma, yml, ymc, uo, nl, uc⟩, hs, vo, gn, vc, rfl, (unhide HX).ans.mono (by omega) (Nat.le_refl _), (unhide GX).base (by omega), fun k h1 h2 => unhide HDJ k (inR_own h1) (inR_own h2), unhide BX⟩
end Go.Proofs.YtbkchepelhkjlaaGreat
