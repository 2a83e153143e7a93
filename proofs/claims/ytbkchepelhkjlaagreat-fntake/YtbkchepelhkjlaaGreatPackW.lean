/-
  Several texts of this claim in one: SameS, TakF, MarkX, StLaw, TakG0 (pack.py put them together); each says in its own remark what is proved.
-/
import Derived.Test.YtbkchepelhkjlaaGreatPackV
import Derived.Test.YtbkchepelhkjlaaGreatStAll
import Derived.Deep.RegionHeld3
import Derived.Deep.RegionWith
import Derived.Deep.QuietTactic
import Derived.Test.YtbkchepelhkjlaaGreatTakS
import Derived.Test.YtbkchepelhkjlaaGreatPackB
import Derived.Test.YtbkchepelhkjlaaGreatMacAt
import Derived.Test.YtbkchepelhkjlaaGreatPackO
/-
 The laws' own words on two states that are the same: sameConts, sameApp, sameState; walks over the dump.
-/
namespace Go.Proofs.YtbkchepelhkjlaaGreat
open Go.RowKit
set_option linter.unusedVariables false
set_option linter.unusedSimpArgs false
set_option maxRecDepth 100000 in
set_option maxHeartbeats 2000000 in
theorem sameConts_same (ao bo : Option Addr) (len cap ccap : Nat) (l : List Con) (w : World) (h : ConRow w ao len l) (h' : ConRow w bo len l) (hl : len ≤ 1048576) :
  Calls Tryz.prog 42 #[.slice ao len cap, .slice bo len ccap] w fun e w' => e = .returned (.bool true) ∧ Below w.heap.size w w' := by
 have HR := hide h
 have HR' := hide h'
 have HL := hide h.1
 clear h h'
 go_enter Tryz.func42, Tryz.ntmps42
 go_wp2
 go_loopw [5] (fun i wr => ∃ k : Nat, k ≤ len ∧ i = .int .i64 k ∧ Hid (Below w.heap.size w wr)) (fun i _ => len - (intOf i).toNat)
 case atStart => exact ⟨0, Nat.zero_le _, rfl, hide (Below.refl _ _)⟩
 case round =>
  obtain ⟨k, hk, rfl, HB⟩ := hrel
  by_cases hlt : k < len
  ·obtain ⟨b, off, rfl, hq⟩ := ((unhide HR).below (unhide HB)).at hlt
   obtain ⟨c, coff, rfl, hq'⟩ := ((unhide HR').below (unhide HB)).at hlt
   have hkl : k < l.length := by have := unhide HL; omega
   have A0 := hide (show ConTwo w b (off + k * 5) c (coff + k * 5) l[k] wr from ⟨hq hkl, hq' hkl, unhide HB⟩)
   obtain ⟨q, hs⟩ : ∃ q, l[k] = q := ⟨_, rfl⟩
   rw [hs] at A0
   have R := ConTwo.read w b (off + k * 5) c (coff + k * 5) q
   have k0 : (0 : Int) ≤ k := by omega
   have k1 : (k : Int) < len := by omega
   clear hq hq' hs hkl
   go_wp2_with fail
   go_region_held3 (fun wx => ConTwo w b (off + k * 5) c (coff + k * 5) q wx)
    (first | (with_reducible assumption) | exact (unhide A0).drew)
    (fail)
   have HB2 := hide (unhide A0).2.2.drew
   clear R A0 HR HR'
   go_wp2
   go_roundw
   case rel => exact ⟨k + 1, by omega, by go_num, HB2⟩
   case measure => simp [intOf]; omega
  ·go_wp2
   go_ret
   exact ⟨rfl, unhide HB⟩

set_option maxRecDepth 100000 in
set_option maxHeartbeats 2000000 in
theorem sameApp_same (id : Int) (qu : List UInt8) (ao bo : Option Addr) (len cap ccap : Nat) (l : List Ask) (w : World) (h : AskRow w ao len l) (h' : AskRow w bo len l) (hl : len ≤ 1048576) :
  Calls Tryz.prog 23 #[applv id qu ao len cap, applv id qu bo len ccap] w fun e w' => e = .returned (.bool true) ∧ Below w.heap.size w w' := by
 have hb0 := below_al (below_al (Below.refl _ w) (.cells #[.int .i64 id, .string (bs qu), .slice ao len cap] 41)) (.cells #[.int .i64 id, .string (bs qu), .slice bo len ccap] 41)
 have P0 := hide ((blk_new w #[.int .i64 id, .string (bs qu), .slice ao len cap] 41).al (.cells #[.int .i64 id, .string (bs qu), .slice bo len ccap] 41))
 have P1 := hide (blk_new (w.alloc (.cells #[.int .i64 id, .string (bs qu), .slice ao len cap] 41)) #[.int .i64 id, .string (bs qu), .slice bo len ccap] 41)
 rw [al_size] at P1
 have HR := hide (h.below hb0)
 have HR' := hide (h'.below hb0)
 have HL := hide h.1
 have HB0 := hide hb0
 clear h h' hb0
 go_enter Tryz.func23, Tryz.ntmps23
 go_upto_region 1 with fail
 generalize (w.alloc (.cells #[.int .i64 id, .string (bs qu), .slice ao len cap] 41)).alloc (.cells #[.int .i64 id, .string (bs qu), .slice bo len ccap] 41) = w2 at P0 P1 HR HR' HB0 ⊢
 have p0 := (unhide P0).at 0; have p1 := (unhide P0).at 1; have p2 := (unhide P0).at 2
 have q0 := (unhide P1).at 0; have q1 := (unhide P1).at 1; have q2 := (unhide P1).at 2
 simp at p0 p1 p2 q0 q1 q2
 go_wp2
 clear p0 p1 p2 q0 q1 q2
 go_loopw [5] (fun i wr => ∃ k : Nat, k ≤ len ∧ i = .int .i64 k ∧ Hid (Below w2.heap.size w2 wr)) (fun i _ => len - (intOf i).toNat)
 case atStart => exact ⟨0, Nat.zero_le _, rfl, hide (Below.refl _ _)⟩
 case round =>
  obtain ⟨k, hk, rfl, HB⟩ := hrel
  have p2 := ((unhide P0).below (unhide HB)).at 2
  have q2 := ((unhide P1).below (unhide HB)).at 2
  simp at p2 q2
  by_cases hlt : k < len
  ·obtain ⟨b, off, rfl, hq⟩ := ((unhide HR).below (unhide HB)).at hlt
   obtain ⟨c, coff, rfl, hq'⟩ := ((unhide HR').below (unhide HB)).at hlt
   have hkl : k < l.length := by have := unhide HL; omega
   have A0 := hide (show AskTwo w2 b (off + k * 5) c (coff + k * 5) l[k] wr from ⟨hq hkl, hq' hkl, unhide HB⟩)
   obtain ⟨q, hs⟩ : ∃ q, l[k] = q := ⟨_, rfl⟩
   rw [hs] at A0
   have R := AskTwo.read w2 b (off + k * 5) c (coff + k * 5) q
   have R2 := fun wx (hx : AskTwo w2 b (off + k * 5) c (coff + k * 5) q wx) => (show wx.cell? ⟨w.heap.size, 2, none⟩ = some (.slice (some ⟨b, off, none⟩) len cap) ∧ wx.cell? ⟨w.heap.size + 1, 2, none⟩ = some (.slice (some ⟨c, coff, none⟩) len ccap) from ⟨((unhide P0).below hx.2.2).at 2, ((unhide P1).below hx.2.2).at 2⟩)
   have k0 : (0 : Int) ≤ k := by omega
   have k1 : (k : Int) < len := by omega
   clear hq hq' hs hkl
   go_wp2_with fail
   go_region_held3 (fun wx => AskTwo w2 b (off + k * 5) c (coff + k * 5) q wx)
    (first | (with_reducible assumption) | exact (unhide A0).drew)
    (fail)
   have HB2 := hide (unhide A0).2.2.drew
   clear R R2 A0 HR HR' p2 q2
   go_wp2
   go_roundw
   case rel => exact ⟨k + 1, by omega, by go_num, HB2⟩
   case measure => simp [intOf]; omega
  ·have HF := hide (below_on (unhide HB0) (unhide HB))
   go_wp2
   go_ret
   exact ⟨rfl, unhide HF⟩

set_option maxRecDepth 100000 in
set_option maxHeartbeats 4000000 in
theorem sameState_same (x y : Sls) (s : St) (w : World) (h : SRow w x s) (h' : SRow w y s) (hf : FitSt s) :
  Calls Tryz.prog 30 #[sv x s, sv y s] w fun e w' => e = .returned (.bool true) ∧ Below w.heap.size w w' := by
 have hb0 := below_al (below_al (Below.refl _ w) (.cells (svc x s) 29)) (.cells (svc y s) 29)
 have P0 := hide ((blk_new w (svc x s) 29).al (.cells (svc y s) 29))
 have P1 := hide (blk_new (w.alloc (.cells (svc x s) 29)) (svc y s) 29)
 rw [al_size] at P1
 have HB0 := hide hb0
 obtain ⟨qa, ql, qc, aa, al, ac, ma, ml, mc, ca, cl, cc⟩ := x
 obtain ⟨ra, rl, rc, ba, bl, bc, na, nl, nc, da, dl, dc⟩ := y
 obtain ⟨qs, clock, epoch, next, serial, apps, ms, cs⟩ := s
 obtain rfl : ql = rl := h.1.1.trans h'.1.1.symm
 obtain rfl : al = bl := h.2.1.1.trans h'.2.1.1.symm
 obtain rfl : ml = nl := h.2.2.1.1.trans h'.2.2.1.1.symm
 obtain rfl : cl = dl := h.2.2.2.1.trans h'.2.2.2.1.symm
 have hlq : ql ≤ 1048576 := by have := h.1.1; have := hf.1.1; simp only at *; omega
 have hla : al ≤ 1048576 := by have := h.2.1.1; have := hf.2.1.1; simp only at *; omega
 have hlc : cl ≤ 1048576 := by have := h.2.2.2.1; have := hf.2.2.2.1; simp only at *; omega
 have CQ := hide (fun wx (hb : Below w.heap.size w wx) => sameQueues_same qa ra ql qc rc qs wx (h.1.below hb) (h'.1.below hb) hlq)
 have CC := hide (fun wx (hb : Below w.heap.size w wx) => sameConts_same ca da cl cc dc cs wx (h.2.2.2.below hb) (h'.2.2.2.below hb) hlc)
 have HA := hide (show ApplRow w aa al apps from h.2.1)
 have HA' := hide (show ApplRow w ba al apps from h'.2.1)
 have HM := hide (show MacRow w ma ml ms from h.2.2.1)
 have HM' := hide (show MacRow w na ml ms from h'.2.2.1)
 have HLA := hide (show al = apps.length from h.2.1.1)
 have HLM := hide (show ml = ms.length from h.2.2.1.1)
 have HK := hide (show ∀ q ∈ apps, q.asks.length ≤ 1048576 from fun q hq => (hf.2.1.2 q hq).2.1)
 have hlm : ml ≤ 1048576 := by have := h.2.2.1.1; have := hf.2.2.1.1; simp only at *; omega
 clear h h' hf hb0
 go_enter Tryz.func30, Tryz.ntmps30
 go_upto_region 1 with fail
 generalize (w.alloc (.cells #[.slice qa ql qc, .int .i64 clock, .int .i64 epoch, .int .i64 next, .int .i64 serial, .slice aa al ac, .slice ma ml mc, .slice ca cl cc] 29)).alloc (.cells #[.slice ra ql rc, .int .i64 clock, .int .i64 epoch, .int .i64 next, .int .i64 serial, .slice ba al bc, .slice na ml nc, .slice da cl dc] 29) = w2 at P0 P1 HB0 ⊢
 have p0 := (unhide P0).at 0; have p1 := (unhide P0).at 1; have p2 := (unhide P0).at 2; have p3 := (unhide P0).at 3; have p4 := (unhide P0).at 4; have p5 := (unhide P0).at 5; have p6 := (unhide P0).at 6; have p7 := (unhide P0).at 7
 have q0 := (unhide P1).at 0; have q1 := (unhide P1).at 1; have q2 := (unhide P1).at 2; have q3 := (unhide P1).at 3; have q4 := (unhide P1).at 4; have q5 := (unhide P1).at 5; have q6 := (unhide P1).at 6; have q7 := (unhide P1).at 7
 simp at p0 p1 p2 p3 p4 p5 p6 p7 q0 q1 q2 q3 q4 q5 q6 q7
 go_wp2_with fail
 refine (unhide CQ _ (unhide HB0)).mono ?_
 rintro e w3 ⟨rfl, hb⟩
 have HB3 := hide (below_on (unhide HB0) hb)
 have P03 := hide ((unhide P0).below hb)
 have P13 := hide ((unhide P1).below hb)
 clear hb p0 p1 p2 p3 p4 p5 p6 p7 q0 q1 q2 q3 q4 q5 q6 q7 HB0 P0 P1
 have p0 := (unhide P03).at 0; have p1 := (unhide P03).at 1; have p2 := (unhide P03).at 2; have p3 := (unhide P03).at 3; have p4 := (unhide P03).at 4; have p5 := (unhide P03).at 5; have p6 := (unhide P03).at 6; have p7 := (unhide P03).at 7
 have q0 := (unhide P13).at 0; have q1 := (unhide P13).at 1; have q2 := (unhide P13).at 2; have q3 := (unhide P13).at 3; have q4 := (unhide P13).at 4; have q5 := (unhide P13).at 5; have q6 := (unhide P13).at 6; have q7 := (unhide P13).at 7
 simp at p0 p1 p2 p3 p4 p5 p6 p7 q0 q1 q2 q3 q4 q5 q6 q7
 go_wp2_with fail
 refine (unhide CC _ (unhide HB3)).mono ?_
 rintro e w4 ⟨rfl, hb⟩
 have HB4 := hide (below_on (unhide HB3) hb)
 have P04 := hide ((unhide P03).below hb)
 have P14 := hide ((unhide P13).below hb)
 clear hb p0 p1 p2 p3 p4 p5 p6 p7 q0 q1 q2 q3 q4 q5 q6 q7 HB3 P03 P13
 go_wp2
 go_loopw [5] (fun i wr => ∃ k : Nat, k ≤ al ∧ i = .int .i64 k ∧ Hid (Below w4.heap.size w4 wr)) (fun i _ => al - (intOf i).toNat)
 case atStart => exact ⟨0, Nat.zero_le _, rfl, hide (Below.refl _ _)⟩
 case round =>
  obtain ⟨k, hk, rfl, HB⟩ := hrel
  have p5 := ((unhide P04).below (unhide HB)).at 5
  have q5 := ((unhide P14).below (unhide HB)).at 5
  simp at p5 q5
  by_cases hlt : k < al
  ·obtain ⟨b, off, rfl, hq⟩ := ((unhide HA).below (below_on (unhide HB4) (unhide HB))).at hlt
   obtain ⟨c, coff, rfl, hq'⟩ := ((unhide HA').below (below_on (unhide HB4) (unhide HB))).at hlt
   have hkl : k < apps.length := by have := unhide HLA; omega
   obtain ⟨xo, xl, xc, hx⟩ := hq hkl
   obtain ⟨yo, yl, yc, hy⟩ := hq' hkl
   obtain rfl : xl = yl := hx.2.2.2.1.1.trans hy.2.2.2.1.1.symm
   have hxl : xl ≤ 1048576 := by have := unhide HK apps[k] (List.getElem_mem _); have := hx.2.2.2.1.1; omega
   have A0 := hide (show ApplTwo w4 b (off + k * 3) c (coff + k * 3) apps[k] xo yo xl xc yc wr from ⟨hx, hy, unhide HB⟩)
   obtain ⟨q, hs⟩ : ∃ q, apps[k] = q := ⟨_, rfl⟩
   rw [hs] at A0
   have R := ApplTwo.read w4 b (off + k * 3) c (coff + k * 3) q xo yo xl xc yc
   have R2 := fun wx (hx : ApplTwo w4 b (off + k * 3) c (coff + k * 3) q xo yo xl xc yc wx) => (show wx.cell? ⟨w.heap.size, 5, none⟩ = some (.slice (some ⟨b, off, none⟩) al ac) ∧ wx.cell? ⟨w.heap.size + 1, 5, none⟩ = some (.slice (some ⟨c, coff, none⟩) al bc) from ⟨((unhide P04).below hx.2.2).at 5, ((unhide P14).below hx.2.2).at 5⟩)
   have k0 : (0 : Int) ≤ k := by omega
   have k1 : (k : Int) < al := by omega
   clear hq hq' hs hkl hx hy
   go_wp2_with fail
   go_region_held3 (fun wx => ApplTwo w4 b (off + k * 3) c (coff + k * 3) q xo yo xl xc yc wx)
    (first | (with_reducible assumption) | exact (unhide A0).drew | exact ApplTwo.call (by assumption) (by assumption))
    (first
    | (go_at_call 23; refine (sameApp_same _ _ xo yo xl xc yc q.asks _ ?_ ?_ hxl).mono ?_; (exact (show ApplTwo w4 b (off + k * 3) c (coff + k * 3) q xo yo xl xc yc _ by assumption).1.2.2.2.1); (exact (show ApplTwo w4 b (off + k * 3) c (coff + k * 3) q xo yo xl xc yc _ by assumption).2.1.2.2.2.1); rintro e wt ⟨rfl, hb⟩; have SA := ApplTwo.call (w0 := w4) (b := b) (p := off + k * 3) (c := c) (r := coff + k * 3) (q := q) (ao := xo) (bo := yo) (len := xl) (cap := xc) (ccap := yc) (by assumption) hb))
   have HB2 := hide SA.2.2
   clear SA R R2 A0 p5 q5
   go_wp2
   go_roundw
   case rel => exact ⟨k + 1, by omega, by go_num, HB2⟩
   case measure => simp [intOf]; omega
  ·have P05 := hide ((unhide P04).below (unhide HB))
   have P15 := hide ((unhide P14).below (unhide HB))
   have HB5 := hide (below_on (unhide HB4) (unhide HB))
   obtain ⟨w5, rfl⟩ : ∃ w5, w5 = wr := ⟨wr, rfl⟩
   clear P04 P14 HB4 HB
   go_wp2
   go_loopw [6] (fun i wr => ∃ k : Nat, k ≤ ml ∧ i = .int .i64 k ∧ Hid (Below w5.heap.size w5 wr)) (fun i _ => ml - (intOf i).toNat)
   case atStart => exact ⟨0, Nat.zero_le _, rfl, hide (Below.refl _ _)⟩
   case round =>
    clear p5 q5
    obtain ⟨j, hj, rfl, HB⟩ := hrel
    have p6 := ((unhide P05).below (unhide HB)).at 6
    have q6 := ((unhide P15).below (unhide HB)).at 6
    simp at p6 q6
    by_cases hlt2 : j < ml
    ·obtain ⟨b, off, rfl, hq⟩ := ((unhide HM).below (below_on (unhide HB5) (unhide HB))).at hlt2
     obtain ⟨c, coff, rfl, hq'⟩ := ((unhide HM').below (below_on (unhide HB5) (unhide HB))).at hlt2
     have hkl : j < ms.length := by have := unhide HLM; omega
     have A0 := hide (show MacTwo w5 b (off + j * 4) c (coff + j * 4) ms[j] wr from ⟨hq hkl, hq' hkl, unhide HB⟩)
     obtain ⟨q, hs⟩ : ∃ q, ms[j] = q := ⟨_, rfl⟩
     rw [hs] at A0
     have R := MacTwo.read w5 b (off + j * 4) c (coff + j * 4) q
     have R2 := fun wx (hx : MacTwo w5 b (off + j * 4) c (coff + j * 4) q wx) => (show wx.cell? ⟨w.heap.size, 6, none⟩ = some (.slice (some ⟨b, off, none⟩) ml mc) ∧ wx.cell? ⟨w.heap.size + 1, 6, none⟩ = some (.slice (some ⟨c, coff, none⟩) ml nc) from ⟨((unhide P05).below hx.2.2).at 6, ((unhide P15).below hx.2.2).at 6⟩)
     have j0 : (0 : Int) ≤ j := by omega
     have j1 : (j : Int) < ml := by omega
     clear hq hq' hs hkl
     go_wp2_with fail
     go_region_held3 (fun wx => MacTwo w5 b (off + j * 4) c (coff + j * 4) q wx)
      (first | (with_reducible assumption) | exact (unhide A0).drew)
      (fail)
     have HB2 := hide (unhide A0).2.2.drew
     clear R R2 A0 p6 q6
     go_wp2
     go_roundw
     case rel => exact ⟨j + 1, by omega, by go_num, HB2⟩
     case measure => simp [intOf]; omega
    ·have HF := hide (below_on (unhide HB5) (unhide HB))
     go_wp2
     go_ret
     exact ⟨rfl, unhide HF⟩
end Go.Proofs.YtbkchepelhkjlaaGreat

/-
 What the program's TakeBack answers: the state that is left, in memory of its own, and what is gone; walks over the dump.
-/
namespace Go.Proofs.YtbkchepelhkjlaaGreat
open Go.RowKit
set_option linter.unusedVariables false
set_option maxRecDepth 100000 in
set_option maxHeartbeats 1000000 in
theorem takeBack_clo (k : Nat) (io : Option Addr) (il ic : Nat) (ids : List Int) (q : Con) (w : World) (h : w.cell? ⟨k, 0, none⟩ = some (.slice io il ic)) (hi : IRow w io il ids) (hil : il ≤ 1048576) :
  Calls Tryz.prog 94 #[conv q, .pointer (some ⟨k, 0, none⟩)] w fun e w' => e = .returned (.bool (hasI q.id ids)) ∧ Below w.heap.size w w' := by
 obtain ⟨id, ap, nd, me, cp⟩ := q
 have hks := cell_lt h
 have hb := below_al (Below.refl _ w) (.cells #[.int .i64 id, .int .i64 ap, .string (bs nd), .int .i64 me, .int .i64 cp] 70)
 have HB := hide hb
 have CC := hide (containsInt_any io il ic ids id _ (hi.below hb) hil)
 clear hb hi
 go_enter Tryz.func94, Tryz.ntmps94
 go_wp2_with fail
 refine (unhide CC).mono ?_
 rintro e w1 ⟨rfl, rfl⟩
 clear CC
 go_wp2
 go_ret
 exact ⟨rfl, unhide HB⟩

set_option maxRecDepth 100000 in
set_option maxHeartbeats 8000000 in
theorem implTakeBack_any (x : Sls) (s : St) (io : Option Addr) (il ic : Nat) (ids : List Int) (w : World) (h : SRow w x s) (hf : FitSt s) (hc : x.ql ≤ x.qc) (hw : WfSt s) (hi : IRow w io il ids) (hil : il ≤ 1048576) :
  Calls Tryz.prog 34 #[sv x s, .slice io il ic] w (StAns w (takeV s ids).1 (takeV s ids).2) := by
 have hlc : s.cs.length ≤ 1048576 := hf.2.2.2.1
 obtain ⟨o, ho⟩ : ∃ o, stateOkV s = o := ⟨_, rfl⟩
 have HO := hide ho
 have HV := hide (takeV_eq s ids)
 have hb0 := below_al (below_al (below_al (Below.refl _ w) (.cells (svc x s) 29)) (.cells #[.slice io il ic] 60)) (.cells #[.slice none 0 0, .int .i64 0, .int .i64 0, .int .i64 0, .int .i64 0, .slice none 0 0, .slice none 0 0, .slice none 0 0] 29)
 have HB0 := hide hb0
 have P0 := hide (((blk_new w (svc x s) 29).al (.cells #[.slice io il ic] 60)).al (.cells #[.slice none 0 0, .int .i64 0, .int .i64 0, .int .i64 0, .int .i64 0, .slice none 0 0, .slice none 0 0, .slice none 0 0] 29))
 have PI := hide (show Blk _ (w.heap.size + 1) #[.slice io il ic] 60 by have := (blk_new (w.alloc (.cells (svc x s) 29)) #[.slice io il ic] 60).al (.cells #[.slice none 0 0, .int .i64 0, .int .i64 0, .int .i64 0, .int .i64 0, .slice none 0 0, .slice none 0 0, .slice none 0 0] 29); rwa [al_size] at this)
 have P1 := hide (show Blk _ (w.heap.size + 2) #[.slice none 0 0, .int .i64 0, .int .i64 0, .int .i64 0, .int .i64 0, .slice none 0 0, .slice none 0 0, .slice none 0 0] 29 by have := blk_new ((w.alloc (.cells (svc x s) 29)).alloc (.cells #[.slice io il ic] 60)) #[.slice none 0 0, .int .i64 0, .int .i64 0, .int .i64 0, .int .i64 0, .slice none 0 0, .slice none 0 0, .slice none 0 0] 29; rwa [al_size, al_size] at this)
 have CC := hide (copyOfState_any x s _ (h.below hb0) hf)
 have CO := hide (fun wx (hb : Below w.heap.size w wx) => by have := implStateOk_any x s wx (h.below hb) hf hc hw; rw [ho] at this; exact this)
 have HI := hide hi
 obtain ⟨qa, ql, qc, aa, al, ac, ma, ml, mc, ca, cl, cc⟩ := x
 obtain ⟨qs, clock, epoch, next, serial, apps, ms, cs⟩ := s
 simp only at *
 clear h hb0 hf hc hw ho hi
 go_enter Tryz.func34, Tryz.ntmps34
 go_wp2_with fail
 refine (unhide CC).mono ?_
 rintro e w2 ⟨y, hs, rfl, ha, hb⟩
 obtain ⟨yqa, yql, yqc, yaa, yal, yac, yma, yml, ymc, yca, ycl, ycc⟩ := y
 rw [al_size, al_size, al_size] at ha
 have H2 := hide (ha.has (Nat.le_refl _))
 have B2 := hide (below_on (unhide HB0) hb)
 have b3 := below_al (Below.refl _ w2) (.cells #[.slice yqa yql yqc, .int .i64 clock, .int .i64 epoch, .int .i64 next, .int .i64 serial, .slice yaa yal yac, .slice yma yml ymc, .slice yca ycl ycc] 29)
 have P3 := hide (((unhide P0).below hb).al (.cells #[.slice yqa yql yqc, .int .i64 clock, .int .i64 epoch, .int .i64 next, .int .i64 serial, .slice yaa yal yac, .slice yma yml ymc, .slice yca ycl ycc] 29))
 have I3 := hide (((unhide PI).below hb).al (.cells #[.slice yqa yql yqc, .int .i64 clock, .int .i64 epoch, .int .i64 next, .int .i64 serial, .slice yaa yal yac, .slice yma yml ymc, .slice yca ycl ycc] 29))
 have R3 := hide (((unhide P1).below hb).al (.cells #[.slice yqa yql yqc, .int .i64 clock, .int .i64 epoch, .int .i64 next, .int .i64 serial, .slice yaa yal yac, .slice yma yml ymc, .slice yca ycl ycc] 29))
 have O3 := hide (blk_new w2 #[.slice yqa yql yqc, .int .i64 clock, .int .i64 epoch, .int .i64 next, .int .i64 serial, .slice yaa yal yac, .slice yma yml ymc, .slice yca ycl ycc] 29)
 have H3 := hide ((unhide H2).below b3)
 have B3 := hide (below_on (unhide B2) b3)
 have hz2 : w.heap.size + 3 ≤ w2.heap.size := by have := hb.size; rw [al_size, al_size, al_size] at this; omega
 obtain ⟨b, hbb⟩ : ∃ b, w2.heap.size = b := ⟨_, rfl⟩
 have HBB := hide hbb
 have a0 := (unhide P3).at 0; have a1 := (unhide P3).at 1; have a2 := (unhide P3).at 2; have a3 := (unhide P3).at 3; have a4 := (unhide P3).at 4; have a5 := (unhide P3).at 5; have a6 := (unhide P3).at 6; have a7 := (unhide P3).at 7
 simp at a0 a1 a2 a3 a4 a5 a6 a7
 clear ha hb HB0 P0 P1 PI CC H2 B2 b3 hbb
 go_wp2_with fail
 refine (unhide CO _ (unhide B3)).mono ?_
 rintro e w4 ⟨rfl, hb⟩
 have B4 := hide (below_on (unhide B3) hb)
 have H4 := hide ((unhide H3).below hb)
 have R4 := hide ((unhide R3).below hb)
 have I4 := hide ((unhide I3).below hb)
 have O4 := hide (show Blk w4 b _ 29 by have := (unhide O3).below hb; rw [unhide HBB] at this; exact this)
 have hz4 : b < w4.heap.size := (unhide O4).lt
 have hb2 : w.heap.size + 3 ≤ b := by have := unhide HBB; omega
 rw [unhide HBB]
 clear hb B3 H3 R3 O3 P3 I3 a0 a1 a2 a3 a4 a5 a6 a7 CO
 cases o
 case false =>
  have c0 := (unhide R4).at 0; have c1 := (unhide R4).at 1; have c2 := (unhide R4).at 2; have c3 := (unhide R4).at 3; have c4 := (unhide R4).at 4; have c5 := (unhide R4).at 5; have c6 := (unhide R4).at 6; have c7 := (unhide R4).at 7
  have f0 := (unhide R4).f 0; have f1 := (unhide R4).f 1; have f2 := (unhide R4).f 2; have f3 := (unhide R4).f 3; have f4 := (unhide R4).f 4; have f5 := (unhide R4).f 5; have f6 := (unhide R4).f 6; have f7 := (unhide R4).f 7
  have a0 := (unhide O4).at 0; have a1 := (unhide O4).at 1; have a2 := (unhide O4).at 2; have a3 := (unhide O4).at 3; have a4 := (unhide O4).at 4; have a5 := (unhide O4).at 5; have a6 := (unhide O4).at 6; have a7 := (unhide O4).at 7
  simp at a0 a1 a2 a3 a4 a5 a6 a7 c0 c1 c2 c3 c4 c5 c6 c7
  go_wp2
  have R9 := hide (show Blk ((((((((w4.setCell ⟨w.heap.size + 2, 0, none⟩ (.slice yqa yql yqc)).setCell ⟨w.heap.size + 2, 1, none⟩ (.int .i64 clock)).setCell ⟨w.heap.size + 2, 2, none⟩ (.int .i64 epoch)).setCell ⟨w.heap.size + 2, 3, none⟩ (.int .i64 next)).setCell ⟨w.heap.size + 2, 4, none⟩ (.int .i64 serial)).setCell ⟨w.heap.size + 2, 5, none⟩ (.slice yaa yal yac)).setCell ⟨w.heap.size + 2, 6, none⟩ (.slice yma yml ymc)).setCell ⟨w.heap.size + 2, 7, none⟩ (.slice yca ycl ycc)) (w.heap.size + 2) #[.slice yqa yql yqc, .int .i64 clock, .int .i64 epoch, .int .i64 next, .int .i64 serial, .slice yaa yal yac, .slice yma yml ymc, .slice yca ycl ycc] 29 from (((((((((unhide R4).set 0 (.slice yqa yql yqc)).set 1 (.int .i64 clock)).set 2 (.int .i64 epoch)).set 3 (.int .i64 next)).set 4 (.int .i64 serial)).set 5 (.slice yaa yal yac)).set 6 (.slice yma yml ymc)).set 7 (.slice yca ycl ycc)))
  have H9 := hide (((((((((unhide H4).sc (k := w.heap.size + 2) (j := 0) (v := .slice yqa yql yqc) (by omega)).sc (k := w.heap.size + 2) (j := 1) (v := .int .i64 clock) (by omega)).sc (k := w.heap.size + 2) (j := 2) (v := .int .i64 epoch) (by omega)).sc (k := w.heap.size + 2) (j := 3) (v := .int .i64 next) (by omega)).sc (k := w.heap.size + 2) (j := 4) (v := .int .i64 serial) (by omega)).sc (k := w.heap.size + 2) (j := 5) (v := .slice yaa yal yac) (by omega)).sc (k := w.heap.size + 2) (j := 6) (v := .slice yma yml ymc) (by omega)).sc (k := w.heap.size + 2) (j := 7) (v := .slice yca ycl ycc) (by omega))
  have B9 := hide (below_sc (below_sc (below_sc (below_sc (below_sc (below_sc (below_sc (below_sc (unhide B4) (w.heap.size + 2) 0 (.slice yqa yql yqc) (by omega)) (w.heap.size + 2) 1 (.int .i64 clock) (by omega)) (w.heap.size + 2) 2 (.int .i64 epoch) (by omega)) (w.heap.size + 2) 3 (.int .i64 next) (by omega)) (w.heap.size + 2) 4 (.int .i64 serial) (by omega)) (w.heap.size + 2) 5 (.slice yaa yal yac) (by omega)) (w.heap.size + 2) 6 (.slice yma yml ymc) (by omega)) (w.heap.size + 2) 7 (.slice yca ycl ycc) (by omega))
  generalize ((((((((w4.setCell ⟨w.heap.size + 2, 0, none⟩ (.slice yqa yql yqc)).setCell ⟨w.heap.size + 2, 1, none⟩ (.int .i64 clock)).setCell ⟨w.heap.size + 2, 2, none⟩ (.int .i64 epoch)).setCell ⟨w.heap.size + 2, 3, none⟩ (.int .i64 next)).setCell ⟨w.heap.size + 2, 4, none⟩ (.int .i64 serial)).setCell ⟨w.heap.size + 2, 5, none⟩ (.slice yaa yal yac)).setCell ⟨w.heap.size + 2, 6, none⟩ (.slice yma yml ymc)).setCell ⟨w.heap.size + 2, 7, none⟩ (.slice yca ycl ycc)) = W9 at R9 H9 B9 ⊢
  have z0 := (unhide R9).at 0; have z1 := (unhide R9).at 1; have z2 := (unhide R9).at 2; have z3 := (unhide R9).at 3; have z4 := (unhide R9).at 4; have z5 := (unhide R9).at 5; have z6 := (unhide R9).at 6; have z7 := (unhide R9).at 7
  simp at z0 z1 z2 z3 z4 z5 z6 z7
  refine bodyPost_ret (v := .tuple #[.agg #[.slice yqa yql yqc, .int .i64 clock, .int .i64 epoch, .int .i64 next, .int .i64 serial, .slice yaa yal yac, .slice yma yml ymc, .slice yca ycl ycc], .slice none 0 0]) (by simp [results, Tryz.results34, go_sem, z0, z1, z2, z3, z4, z5, z6, z7]) rfl ?_
  rw [(unhide HV).2 (unhide HO)]
  exact ⟨⟨yqa, yql, yqc, yaa, yal, yac, yma, yml, ymc, yca, ycl, ycc⟩, hs, none, 0, 0, rfl, (unhide H9).ans.mono (by omega) (Nat.le_refl _), ⟨⟨rfl, .inl rfl⟩, .inl rfl⟩, fun k hk => absurd rfl hk.1, unhide B9⟩
 have hcl : ycl ≤ 1048576 := by have := (unhide H4).c.1.1; simp only at this; omega
 have CD := hide (takeConts_st 94 #[.pointer (some ⟨w.heap.size + 1, 0, none⟩)] (enters_of Tryz.func94 (by kernel_rfl) rfl) (fun q => hasI q.id ids) b ⟨yqa, yql, yqc, yaa, yal, yac, yma, yml, ymc, yca, ycl, ycc⟩ ⟨qs, clock, epoch, next, serial, apps, ms, cs⟩ hs w4 (unhide O4) (unhide H4) (by omega) hcl (fun wx q hq hbx => takeBack_clo (w.heap.size + 1) io il ic ids q wx (((unhide I4).below hbx).at 0) ((unhide HI).below (below_on (unhide B4) hbx)) hil))
 simp only at CD
 clear hcl
 go_wp2_with fail
 refine (unhide CD).mono ?_
 rintro e w5 ⟨z, go, gn, gc, rfl, hk, hh, hg, hap, hm⟩
 obtain ⟨zqa, zql, zqc, zaa, zal, zac, zma, zml, zmc, zca, zcl, zcc⟩ := z
 have K5 := hide hk
 have H5 := hide hh
 have G5 := hide (hg.base (B' := w.heap.size + 3) (by omega))
 have AP := hide hap
 have R5 := hide (hm.blk1 (unhide R4) (by omega))
 have B5 := hide (show Below w.heap.size w w5 from (unhide B4).trans (hm.below (fun k (hk : k = b) => by omega) (by omega)))
 clear hk hh hg hap hm CD
 have c0 := (unhide R5).at 0; have c1 := (unhide R5).at 1; have c2 := (unhide R5).at 2; have c3 := (unhide R5).at 3; have c4 := (unhide R5).at 4; have c5 := (unhide R5).at 5; have c6 := (unhide R5).at 6; have c7 := (unhide R5).at 7
 have f0 := (unhide R5).f 0; have f1 := (unhide R5).f 1; have f2 := (unhide R5).f 2; have f3 := (unhide R5).f 3; have f4 := (unhide R5).f 4; have f5 := (unhide R5).f 5; have f6 := (unhide R5).f 6; have f7 := (unhide R5).f 7
 have a0 := (unhide K5).at 0; have a1 := (unhide K5).at 1; have a2 := (unhide K5).at 2; have a3 := (unhide K5).at 3; have a4 := (unhide K5).at 4; have a5 := (unhide K5).at 5; have a6 := (unhide K5).at 6; have a7 := (unhide K5).at 7
 simp at a0 a1 a2 a3 a4 a5 a6 a7 c0 c1 c2 c3 c4 c5 c6 c7
 go_wp2
 have R9 := hide (show Blk ((((((((w5.setCell ⟨w.heap.size + 2, 0, none⟩ (.slice zqa zql zqc)).setCell ⟨w.heap.size + 2, 1, none⟩ (.int .i64 clock)).setCell ⟨w.heap.size + 2, 2, none⟩ (.int .i64 epoch)).setCell ⟨w.heap.size + 2, 3, none⟩ (.int .i64 next)).setCell ⟨w.heap.size + 2, 4, none⟩ (.int .i64 serial)).setCell ⟨w.heap.size + 2, 5, none⟩ (.slice zaa zal zac)).setCell ⟨w.heap.size + 2, 6, none⟩ (.slice zma zml zmc)).setCell ⟨w.heap.size + 2, 7, none⟩ (.slice zca zcl zcc)) (w.heap.size + 2) #[.slice zqa zql zqc, .int .i64 clock, .int .i64 epoch, .int .i64 next, .int .i64 serial, .slice zaa zal zac, .slice zma zml zmc, .slice zca zcl zcc] 29 from (((((((((unhide R5).set 0 (.slice zqa zql zqc)).set 1 (.int .i64 clock)).set 2 (.int .i64 epoch)).set 3 (.int .i64 next)).set 4 (.int .i64 serial)).set 5 (.slice zaa zal zac)).set 6 (.slice zma zml zmc)).set 7 (.slice zca zcl zcc)))
 have H9 := hide (((((((((unhide H5).sc (k := w.heap.size + 2) (j := 0) (v := .slice zqa zql zqc) (by omega)).sc (k := w.heap.size + 2) (j := 1) (v := .int .i64 clock) (by omega)).sc (k := w.heap.size + 2) (j := 2) (v := .int .i64 epoch) (by omega)).sc (k := w.heap.size + 2) (j := 3) (v := .int .i64 next) (by omega)).sc (k := w.heap.size + 2) (j := 4) (v := .int .i64 serial) (by omega)).sc (k := w.heap.size + 2) (j := 5) (v := .slice zaa zal zac) (by omega)).sc (k := w.heap.size + 2) (j := 6) (v := .slice zma zml zmc) (by omega)).sc (k := w.heap.size + 2) (j := 7) (v := .slice zca zcl zcc) (by omega))
 have G9 := hide (((((((((unhide G5).sc (k := w.heap.size + 2) (j := 0) (v := .slice zqa zql zqc) (by omega)).sc (k := w.heap.size + 2) (j := 1) (v := .int .i64 clock) (by omega)).sc (k := w.heap.size + 2) (j := 2) (v := .int .i64 epoch) (by omega)).sc (k := w.heap.size + 2) (j := 3) (v := .int .i64 next) (by omega)).sc (k := w.heap.size + 2) (j := 4) (v := .int .i64 serial) (by omega)).sc (k := w.heap.size + 2) (j := 5) (v := .slice zaa zal zac) (by omega)).sc (k := w.heap.size + 2) (j := 6) (v := .slice zma zml zmc) (by omega)).sc (k := w.heap.size + 2) (j := 7) (v := .slice zca zcl zcc) (by omega))
 have B9 := hide (below_sc (below_sc (below_sc (below_sc (below_sc (below_sc (below_sc (below_sc (unhide B5) (w.heap.size + 2) 0 (.slice zqa zql zqc) (by omega)) (w.heap.size + 2) 1 (.int .i64 clock) (by omega)) (w.heap.size + 2) 2 (.int .i64 epoch) (by omega)) (w.heap.size + 2) 3 (.int .i64 next) (by omega)) (w.heap.size + 2) 4 (.int .i64 serial) (by omega)) (w.heap.size + 2) 5 (.slice zaa zal zac) (by omega)) (w.heap.size + 2) 6 (.slice zma zml zmc) (by omega)) (w.heap.size + 2) 7 (.slice zca zcl zcc) (by omega))
 generalize ((((((((w5.setCell ⟨w.heap.size + 2, 0, none⟩ (.slice zqa zql zqc)).setCell ⟨w.heap.size + 2, 1, none⟩ (.int .i64 clock)).setCell ⟨w.heap.size + 2, 2, none⟩ (.int .i64 epoch)).setCell ⟨w.heap.size + 2, 3, none⟩ (.int .i64 next)).setCell ⟨w.heap.size + 2, 4, none⟩ (.int .i64 serial)).setCell ⟨w.heap.size + 2, 5, none⟩ (.slice zaa zal zac)).setCell ⟨w.heap.size + 2, 6, none⟩ (.slice zma zml zmc)).setCell ⟨w.heap.size + 2, 7, none⟩ (.slice zca zcl zcc)) = W9 at R9 H9 G9 B9 ⊢
 have z0 := (unhide R9).at 0; have z1 := (unhide R9).at 1; have z2 := (unhide R9).at 2; have z3 := (unhide R9).at 3; have z4 := (unhide R9).at 4; have z5 := (unhide R9).at 5; have z6 := (unhide R9).at 6; have z7 := (unhide R9).at 7
 simp at z0 z1 z2 z3 z4 z5 z6 z7
 refine bodyPost_ret (v := .tuple #[.agg #[.slice zqa zql zqc, .int .i64 clock, .int .i64 epoch, .int .i64 next, .int .i64 serial, .slice zaa zal zac, .slice zma zml zmc, .slice zca zcl zcc], .slice go gn gc]) (by simp [results, Tryz.results34, go_sem, z0, z1, z2, z3, z4, z5, z6, z7]) rfl ?_
 rw [(unhide HV).1 (unhide HO)]
 exact ⟨⟨zqa, zql, zqc, zaa, zal, zac, zma, zml, zmc, zca, zcl, zcc⟩, _, go, gn, gc, rfl, (unhide H9).ans.mono (by omega) (Nat.le_refl _), (unhide G9).base (by omega), unhide AP, unhide B9⟩
end Go.Proofs.YtbkchepelhkjlaaGreat

/-
 The laws' own markAppS and markState over what toState made: what they leave alone; walks over the dump.
-/
namespace Go.Proofs.YtbkchepelhkjlaaGreat
open Go.RowKit
set_option linter.unusedVariables false
/-- block g is a row of n applications whose asks lie in blocks from B on to E -/
def AWh (w : World) (B E g n : Nat) : Prop := Cel w 41 g (n * 3) ∧ ∀ i, i < n → ∃ b len, w.cell? ⟨g, i * 3 + 2, none⟩ = some (.slice (some ⟨b, 0, none⟩) len len) ∧ Cel w 106 b (len * 5) ∧ len ≤ 1048576 ∧ B ≤ b ∧ b < E ∧ b ≠ g
theorem AWh.below {w w' : World} {B E g n : Nat} (h : AWh w B E g n) (hb : Below w.heap.size w w') : AWh w' B E g n :=
 ⟨h.1.below hb, fun i hi => let ⟨b, len, a, c, d⟩ := h.2 i hi; ⟨b, len, cellBel a hb, c.below hb, d⟩⟩
theorem AWh.sc {w : World} {B E g n : Nat} (h : AWh w B E g n) (j : Nat) (v : Value) (hj : ∀ i, j ≠ i * 3 + 2) : AWh (w.setCell ⟨g, j, none⟩ v) B E g n :=
 ⟨h.1.set _ _ _, fun i hi => let ⟨b, len, a, c, d⟩ := h.2 i hi; ⟨b, len, cellKeep a (hj i), c.set _ _ _, d⟩⟩
theorem AWh.mono {w : World} {B E B' E' g n : Nat} (h : AWh w B E g n) (h1 : B' ≤ B) (h2 : E ≤ E') : AWh w B' E' g n :=
 ⟨h.1, fun i hi => let ⟨b, len, a, c, d, e, f, k⟩ := h.2 i hi; ⟨b, len, a, c, d, by omega, by omega, k⟩⟩
end Go.Proofs.YtbkchepelhkjlaaGreat

/-
 What a law over an answer that is a state and a list of containers holds: the answer, its marks.
-/
namespace Go.Proofs.YtbkchepelhkjlaaGreat
open Go.RowKit
set_option linter.unusedVariables false
/-- an answer in a variable: its state and its list own their memory -/
structure AnsL (B E : Nat) (w : World) (g : Nat) (y : Sls) (s : St) (hs : List AV) (go : Option Addr) (gn : Nat) (gone : List Con) : Prop where
 box : Blk w g (svc y s) 29
 a : SAns B E w y s hs
 c : ConRow w go gn gone
 co : Own1 B E w 70 5 go gn
 ap : ∀ k, inR go gn k → ¬ inR y.ca y.cl k
 ge : E ≤ g
theorem AnsL.below {B E : Nat} {w w' : World} {g : Nat} {y : Sls} {s : St} {hs : List AV} {go : Option Addr} {gn : Nat} {gone : List Con} (h : AnsL B E w g y s hs go gn gone) (hb : Below w.heap.size w w') : AnsL B E w' g y s hs go gn gone :=
 ⟨h.box.below hb, h.a.below hb, h.c.below hb, h.co.below hb, h.ap, h.ge⟩
theorem AnsL.al {B E : Nat} {w : World} {g : Nat} {y : Sls} {s : St} {hs : List AV} {go : Option Addr} {gn : Nat} {gone : List Con} (h : AnsL B E w g y s hs go gn gone) (o : Obj) : AnsL B E (w.alloc o) g y s hs go gn gone := h.below (below_al (Below.refl _ _) o)
theorem AnsL.keep {B E : Nat} {w w' : World} {g : Nat} {y : Sls} {s : St} {hs : List AV} {go : Option Addr} {gn : Nat} {gone : List Con} (h : AnsL B E w g y s hs go gn gone) (hk : ∀ k, B ≤ k → k < E → w'.heap[k]? = w.heap[k]?) (hg : w'.heap[g]? = w.heap[g]?) : AnsL B E w' g y s hs go gn gone := by
 refine ⟨hg.trans h.box, h.a.keep hk, h.c.kept (fun k hi => ?_), ?_, h.ap, h.ge⟩
 ·obtain ⟨h1, h2, _⟩ := h.co.lies k hi
  exact hk k h1 h2
 ·rcases h.co with e | ⟨b, M, e, h1, h2, h3, h4⟩
  ·exact .inl e
  ·exact .inr ⟨b, M, e, h1, h2, h3.of_block (hk b h1 h2), h4⟩
theorem AnsL.read {B E : Nat} {w : World} {g : Nat} {y : Sls} {s : St} {hs : List AV} {go : Option Addr} {gn : Nat} {gone : List Con} (h : AnsL B E w g y s hs go gn gone) : w.cell? ⟨g, 0, none⟩ = some (.slice y.qa y.ql y.qc) ∧ w.cell? ⟨g, 1, none⟩ = some (.int .i64 s.clock) ∧ w.cell? ⟨g, 2, none⟩ = some (.int .i64 s.epoch) ∧ w.cell? ⟨g, 3, none⟩ = some (.int .i64 s.next) ∧ w.cell? ⟨g, 4, none⟩ = some (.int .i64 s.serial) ∧ w.cell? ⟨g, 5, none⟩ = some (.slice y.aa y.al y.ac) ∧ w.cell? ⟨g, 6, none⟩ = some (.slice y.ma y.ml y.mc) ∧ w.cell? ⟨g, 7, none⟩ = some (.slice y.ca y.cl y.cc) :=
 ⟨h.box.at 0, h.box.at 1, h.box.at 2, h.box.at 3, h.box.at 4, h.box.at 5, h.box.at 6, h.box.at 7⟩
/-- the blocks of a state's lists are its own -/
structure OwnS (B E : Nat) (w : World) (x : Sls) (hs : List AV) : Prop where
 q : Own1 B E w 59 4 x.qa x.ql
 a : Own1 B E w 41 3 x.aa x.al
 m : Own1 B E w 56 4 x.ma x.ml
 c : Own1 B E w 70 5 x.ca x.cl
 k : ∀ v ∈ hs, Own1 B E w 106 5 v.ao v.len
theorem SAns.own {B E : Nat} {w : World} {x : Sls} {s : St} {hs : List AV} (h : SAns B E w x s hs) : OwnS B E w x hs := ⟨h.q, h.a, h.m, h.c, h.asks⟩
theorem OwnS.mks {B E : Nat} {w w' : World} {x : Sls} {hs : List AV} {S : Nat → Prop} (h : OwnS B E w x hs) (hm : Mks S w w') : OwnS B E w' x hs := ⟨h.q.mks hm, h.a.mks hm, h.m.mks hm, h.c.mks hm, fun v hv => (h.k v hv).mks hm⟩
/-- an answer whose state bears its marks -/
structure AnsH (B E : Nat) (w : World) (g : Nat) (y : Sls) (s : St) (hs : List AV) (go : Option Addr) (gn : Nat) : Prop where
 box : Blk w g (svc y s) 29
 m : SMk w y hs
 own : OwnS B E w y hs
 co : Own1 B E w 70 5 go gn
 ap : ∀ k, inR go gn k → ¬ inR y.ca y.cl k
 ge : E ≤ g
theorem AnsH.read {B E : Nat} {w : World} {g : Nat} {y : Sls} {s : St} {hs : List AV} {go : Option Addr} {gn : Nat} (h : AnsH B E w g y s hs go gn) : w.cell? ⟨g, 0, none⟩ = some (.slice y.qa y.ql y.qc) := h.box.at 0
/-- an answer that bears all its marks -/
structure AnsM (w : World) (g : Nat) (y : Sls) (s : St) (hs : List AV) (go : Option Addr) (gn : Nat) : Prop where
 box : Blk w g (svc y s) 29
 m : SMk w y hs
 c : ConRow w go gn (marksC (endS y hs) gn)
theorem AnsM.below {w w' : World} {g : Nat} {y : Sls} {s : St} {hs : List AV} {go : Option Addr} {gn : Nat} (h : AnsM w g y s hs go gn) (hb : Below w.heap.size w w') : AnsM w' g y s hs go gn := ⟨h.box.below hb, h.m.below hb, h.c.below hb⟩
theorem AnsM.al {w : World} {g : Nat} {y : Sls} {s : St} {hs : List AV} {go : Option Addr} {gn : Nat} (h : AnsM w g y s hs go gn) (o : Obj) : AnsM (w.alloc o) g y s hs go gn := h.below (below_al (Below.refl _ _) o)
theorem AnsM.read {w : World} {g : Nat} {y : Sls} {s : St} {hs : List AV} {go : Option Addr} {gn : Nat} (h : AnsM w g y s hs go gn) : w.cell? ⟨g, 0, none⟩ = some (.slice y.qa y.ql y.qc) ∧ w.cell? ⟨g, 1, none⟩ = some (.int .i64 s.clock) ∧ w.cell? ⟨g, 2, none⟩ = some (.int .i64 s.epoch) ∧ w.cell? ⟨g, 3, none⟩ = some (.int .i64 s.next) ∧ w.cell? ⟨g, 4, none⟩ = some (.int .i64 s.serial) ∧ w.cell? ⟨g, 5, none⟩ = some (.slice y.aa y.al y.ac) ∧ w.cell? ⟨g, 6, none⟩ = some (.slice y.ma y.ml y.mc) ∧ w.cell? ⟨g, 7, none⟩ = some (.slice y.ca y.cl y.cc) :=
 ⟨h.box.at 0, h.box.at 1, h.box.at 2, h.box.at 3, h.box.at 4, h.box.at 5, h.box.at 6, h.box.at 7⟩
/-- what lies outside of the blocks of an answer stands -/
theorem AnsL.off {B E B' E' : Nat} {w w' : World} {g : Nat} {y : Sls} {s : St} {hs : List AV} {go : Option Addr} {gn : Nat} {gone : List Con} {S : Nat → Prop} (h : AnsL B E w g y s hs go gn gone) (hm : Mks S w w') (hS : ∀ k, S k → B' ≤ k ∧ k < E') (h1 : g < B' ∨ E' ≤ B) (h2 : g < B' ∨ E' ≤ g) : AnsL B E w' g y s hs go gn gone :=
 h.keep (fun k hk1 hk2 => hm.block k (by have := h.box.lt; have := h.ge; omega) (fun hs => by have := hS k hs; have := h.ge; omega)) (hm.block g h.box.lt (fun hs => by have := hS g hs; omega))
end Go.Proofs.YtbkchepelhkjlaaGreat

/-
 A whole slice appended in a region that draws; what is left of heads.
-/
namespace Go.Proofs.YtbkchepelhkjlaaGreat
open Go.RowKit
set_option linter.unusedVariables false
set_option linter.unusedSimpArgs false
theorem step_append_own {P : Program} {w : World} {ops : Array Oper} {o : Oper} {a : Act} {K : Act → World → Prop} {Q : Exit → Act → World → Prop} {E : Prop} (hgd : o.guard = none) (s x : Operand) (t : TypeId)
  (ho : o.op = .call { callee := .builtin .append, args := #[s, x], argTypes := #[t, t] })
  (base : Nat) (e : TypeId) (i : TypeInfo) (z : Value) (size bytes : Nat) (ht : P.underlying t = some (.slice e)) (hi : P.info? e = some i) (hz : i.zero = some z)
  (hsize : i.size = size) (hby : i.bytes = bytes) (hzs : z.cells.size = size) (hsz : 0 < size)
  (v : Value) (n : Nat) (xs : List Value) (hs : a.eval s = v) (hown : w.ownsRow base e size v n xs)
  (ad : Addr) (m c : Nat) (news : List Value) (hx : a.eval x = .slice (some ad) m c) (hl : news.length = m * size) (hnews : ∀ j u, news[j]? = some u → w.cell? (ad.add j) = some u) (h1 : ∀ u ∈ news, u.oneCell' = true)
  (h63 : n + m ≤ maxLen) (hbytes : (n + m) * bytes ≤ 140737488355328) (hbase : base ≤ w.heap.size)
  (h : ∀ v' w', w'.ownsRow base e size v' (n + m) (xs ++ news) → w.grownBy w' v.ownBlock → (v' = .slice none 0 0 ↔ v = .slice none 0 0 ∧ m = 0) → K (a.put o.dst v') w') :
  if Region.wanted o (yielded ops a.tmps) = true then Oper.wp P o a w K Q else E := by
 have hw : Region.wanted o (yielded ops a.tmps) = true := by simp [Region.wanted, hgd]
 rw [if_pos hw]
 exact wp_append_own w s x t ho base e i z size bytes ht hi hz hsize hby hzs hsz v n xs hs hown ad m c news hx hl hnews h1 h63 hbytes hbase h
theorem owns_recount {w : World} {B sz n n' : Nat} {e : TypeId} {v : Value} {xs xs' : List Value} (h : w.ownsRow B e sz v n xs) (hn : n = n') (hx : xs = xs') : w.ownsRow B e sz v n' xs' := by subst hn hx; exact h
theorem owns_some {w : World} {B sz n : Nat} {e : TypeId} {v : Value} {xs : List Value} (h : w.ownsRow B e sz v n xs) (hv : v ≠ .slice none 0 0) : ∃ g cap, v = .slice (some ⟨g, 0, none⟩) n cap := by
 rcases h.2 with ⟨e, _⟩ | ⟨g, cap, cur, e, _⟩
 ·exact absurd e hv
 ·exact ⟨g, cap, e⟩
theorem heads_erase {w : World} : ∀ (hs : List AV) (l : List Appl) (j : Nat), Heads w hs l → Heads w (hs.eraseIdx j) (l.eraseIdx j)
 | [], [], j, _ => heads_nil w
 | [], a :: s, j, h => absurd h.1 (by simp)
 | v :: t, [], j, h => absurd h.1 (by simp)
 | v :: t, a :: s, 0, h => (heads_cons h).2
 | v :: t, a :: s, j + 1, h => heads_put (heads_cons h).1 (heads_erase t s j (heads_cons h).2)
theorem KHas.erase {B : Nat} {w : World} {hs : List AV} {l : List Appl} (h : KHas B w hs l) (j : Nat) : KHas B w (hs.eraseIdx j) (l.eraseIdx j) :=
 ⟨heads_erase hs l j h.heads, fun v hv => h.own v (List.mem_of_mem_eraseIdx hv), h.apart.sublist (List.eraseIdx_sublist _ _)⟩
end Go.Proofs.YtbkchepelhkjlaaGreat
