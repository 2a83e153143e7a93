/-
  Several texts of this claim in one: SameS, AppOfB (pack.py put them together); each says in its own remark what is proved.
-/
import Derived.Test.YtcplnodfcchdhaaGreatPackAD
import Derived.Test.YtcplnodfcchdhaaGreatStAll
import Derived.Deep.RegionHeld3
import Derived.Deep.RegionWith
import Derived.Deep.QuietTactic
import Derived.Test.YtcplnodfcchdhaaGreatPackE
import Derived.Test.YtcplnodfcchdhaaGreatPackT
import Derived.Test.YtcplnodfcchdhaaGreatPackAC
import Derived.Test.YtcplnodfcchdhaaGreatPackY
/-
  The laws' own words on two states that are the same: sameConts, sameApp, sameState; walks over the dump.
-/
namespace Go.Proofs.YtcplnodfcchdhaaGreat
open Go.RowKit
set_option linter.unusedVariables false
set_option linter.unusedSimpArgs false
set_option maxRecDepth 100000 in
set_option maxHeartbeats 2000000 in
theorem sameConts_same (ao bo : Option Addr) (len cap ccap : Nat) (l : List Con) (w : World) (h : ConRow w ao len l) (h' : ConRow w bo len l) (hl : len ≤ 1048576) :
    Calls Tryz.prog 75 #[.slice ao len cap, .slice bo len ccap] w fun e w' => e = .returned (.bool true) ∧ Below w.heap.size w w' := by
  have HR := hide h
  have HR' := hide h'
  have HL := hide h.1
  clear h h'
  go_enter Tryz.func75, Tryz.ntmps75
  go_wp2
  go_loopw [5] (fun i wr => ∃ k : Nat, k ≤ len ∧ i = .int .i64 k ∧ Hid (Below w.heap.size w wr)) (fun i _ => len - (intOf i).toNat)
  case atStart => exact ⟨0, Nat.zero_le _, rfl, hide (Below.refl _ _)⟩
  case round =>
    obtain ⟨k, hk, rfl, HB⟩ := hrel
    by_cases hlt : k < len
    · obtain ⟨b, off, rfl, hq⟩ := ((unhide HR).below (unhide HB)).at hlt
      obtain ⟨c, coff, rfl, hq'⟩ := ((unhide HR').below (unhide HB)).at hlt
      have hkl : k < l.length := by have := unhide HL; omega
      have A0 := hide (show ConTwo w b (off + k * 5) c (coff + k * 5) l[k] wr from ⟨hq hkl, hq' hkl, unhide HB⟩)
      obtain ⟨q, hs⟩ : ∃ q, l[k] = q := ⟨_, rfl⟩
      rw [hs] at A0
      have R := ConTwo.read w b (off + k * 5) c (coff + k * 5) q
      have k0 : (0 : Int) ≤ k := by omega
      have k1 : (k : Int) < len := by omega
      clear hq hq' hs hkl
      go_wp2_with fail
      go_region_held3 (fun wx => ConTwo w b (off + k * 5) c (coff + k * 5) q wx)
        (first | (with_reducible assumption) | exact (unhide A0).drew)
        (fail)
      have HB2 := hide (unhide A0).2.2.drew
      clear R A0 HR HR'
      go_wp2
      go_roundw
      case rel => exact ⟨k + 1, by omega, by go_num, HB2⟩
      case measure => simp [intOf]; omega
    · go_wp2
      go_ret
      exact ⟨rfl, unhide HB⟩

set_option maxRecDepth 100000 in
set_option maxHeartbeats 2000000 in
theorem sameApp_same (id : Int) (qu : List UInt8) (ao bo : Option Addr) (len cap ccap : Nat) (l : List Ask) (w : World) (h : AskRow w ao len l) (h' : AskRow w bo len l) (hl : len ≤ 1048576) :
    Calls Tryz.prog 22 #[applv id qu ao len cap, applv id qu bo len ccap] w fun e w' => e = .returned (.bool true) ∧ Below w.heap.size w w' := by
  have hb0 := below_al (below_al (Below.refl _ w) (.cells #[.int .i64 id, .string (bs qu), .slice ao len cap] 41)) (.cells #[.int .i64 id, .string (bs qu), .slice bo len ccap] 41)
  have P0 := hide ((blk_new w #[.int .i64 id, .string (bs qu), .slice ao len cap] 41).al (.cells #[.int .i64 id, .string (bs qu), .slice bo len ccap] 41))
  have P1 := hide (blk_new (w.alloc (.cells #[.int .i64 id, .string (bs qu), .slice ao len cap] 41)) #[.int .i64 id, .string (bs qu), .slice bo len ccap] 41)
  rw [al_size] at P1
  have HR := hide (h.below hb0)
  have HR' := hide (h'.below hb0)
  have HL := hide h.1
  have HB0 := hide hb0
  clear h h' hb0
  go_enter Tryz.func22, Tryz.ntmps22
  go_upto_region 1 with fail
  generalize (w.alloc (.cells #[.int .i64 id, .string (bs qu), .slice ao len cap] 41)).alloc (.cells #[.int .i64 id, .string (bs qu), .slice bo len ccap] 41) = w2 at P0 P1 HR HR' HB0 ⊢
  have p0 := (unhide P0).at 0; have p1 := (unhide P0).at 1; have p2 := (unhide P0).at 2
  have q0 := (unhide P1).at 0; have q1 := (unhide P1).at 1; have q2 := (unhide P1).at 2
  simp at p0 p1 p2 q0 q1 q2
  go_wp2
  clear p0 p1 p2 q0 q1 q2
  go_loopw [5] (fun i wr => ∃ k : Nat, k ≤ len ∧ i = .int .i64 k ∧ Hid (Below w2.heap.size w2 wr)) (fun i _ => len - (intOf i).toNat)
  case atStart => exact ⟨0, Nat.zero_le _, rfl, hide (Below.refl _ _)⟩
  case round =>
    obtain ⟨k, hk, rfl, HB⟩ := hrel
    have p2 := ((unhide P0).below (unhide HB)).at 2
    have q2 := ((unhide P1).below (unhide HB)).at 2
    simp at p2 q2
    by_cases hlt : k < len
    · obtain ⟨b, off, rfl, hq⟩ := ((unhide HR).below (unhide HB)).at hlt
      obtain ⟨c, coff, rfl, hq'⟩ := ((unhide HR').below (unhide HB)).at hlt
      have hkl : k < l.length := by have := unhide HL; omega
      have A0 := hide (show AskTwo w2 b (off + k * 5) c (coff + k * 5) l[k] wr from ⟨hq hkl, hq' hkl, unhide HB⟩)
      obtain ⟨q, hs⟩ : ∃ q, l[k] = q := ⟨_, rfl⟩
      rw [hs] at A0
      have R := AskTwo.read w2 b (off + k * 5) c (coff + k * 5) q
      have R2 := fun wx (hx : AskTwo w2 b (off + k * 5) c (coff + k * 5) q wx) => (show wx.cell? ⟨w.heap.size, 2, none⟩ = some (.slice (some ⟨b, off, none⟩) len cap) ∧ wx.cell? ⟨w.heap.size + 1, 2, none⟩ = some (.slice (some ⟨c, coff, none⟩) len ccap) from ⟨((unhide P0).below hx.2.2).at 2, ((unhide P1).below hx.2.2).at 2⟩)
      have k0 : (0 : Int) ≤ k := by omega
      have k1 : (k : Int) < len := by omega
      clear hq hq' hs hkl
      go_wp2_with fail
      go_region_held3 (fun wx => AskTwo w2 b (off + k * 5) c (coff + k * 5) q wx)
        (first | (with_reducible assumption) | exact (unhide A0).drew)
        (fail)
      have HB2 := hide (unhide A0).2.2.drew
      clear R R2 A0 HR HR' p2 q2
      go_wp2
      go_roundw
      case rel => exact ⟨k + 1, by omega, by go_num, HB2⟩
      case measure => simp [intOf]; omega
    · have HF := hide (below_on (unhide HB0) (unhide HB))
      go_wp2
      go_ret
      exact ⟨rfl, unhide HF⟩

set_option maxRecDepth 100000 in
set_option maxHeartbeats 4000000 in
theorem sameState_same (x y : Sls) (s : St) (w : World) (h : SRow w x s) (h' : SRow w y s) (hf : FitSt s) :
    Calls Tryz.prog 29 #[sv x s, sv y s] w fun e w' => e = .returned (.bool true) ∧ Below w.heap.size w w' := by
  have hb0 := below_al (below_al (Below.refl _ w) (.cells (svc x s) 29)) (.cells (svc y s) 29)
  have P0 := hide ((blk_new w (svc x s) 29).al (.cells (svc y s) 29))
  have P1 := hide (blk_new (w.alloc (.cells (svc x s) 29)) (svc y s) 29)
  rw [al_size] at P1
  have HB0 := hide hb0
  obtain ⟨qa, ql, qc, aa, al, ac, ma, ml, mc, ca, cl, cc⟩ := x
  obtain ⟨ra, rl, rc, ba, bl, bc, na, nl, nc, da, dl, dc⟩ := y
  obtain ⟨qs, clock, epoch, next, serial, apps, ms, cs⟩ := s
  obtain rfl : ql = rl := h.1.1.trans h'.1.1.symm
  obtain rfl : al = bl := h.2.1.1.trans h'.2.1.1.symm
  obtain rfl : ml = nl := h.2.2.1.1.trans h'.2.2.1.1.symm
  obtain rfl : cl = dl := h.2.2.2.1.trans h'.2.2.2.1.symm
  have hlq : ql ≤ 1048576 := by have := h.1.1; have := hf.1.1; simp only at *; omega
  have hla : al ≤ 1048576 := by have := h.2.1.1; have := hf.2.1.1; simp only at *; omega
  have hlc : cl ≤ 1048576 := by have := h.2.2.2.1; have := hf.2.2.2.1; simp only at *; omega
  have CQ := hide (fun wx (hb : Below w.heap.size w wx) => sameQueues_same qa ra ql qc rc qs wx (h.1.below hb) (h'.1.below hb) hlq)
  have CC := hide (fun wx (hb : Below w.heap.size w wx) => sameConts_same ca da cl cc dc cs wx (h.2.2.2.below hb) (h'.2.2.2.below hb) hlc)
  have HA := hide (show ApplRow w aa al apps from h.2.1)
  have HA' := hide (show ApplRow w ba al apps from h'.2.1)
  have HM := hide (show MacRow w ma ml ms from h.2.2.1)
  have HM' := hide (show MacRow w na ml ms from h'.2.2.1)
  have HLA := hide (show al = apps.length from h.2.1.1)
  have HLM := hide (show ml = ms.length from h.2.2.1.1)
  have HK := hide (show ∀ q ∈ apps, q.asks.length ≤ 1048576 from fun q hq => (hf.2.1.2 q hq).2.1)
  have hlm : ml ≤ 1048576 := by have := h.2.2.1.1; have := hf.2.2.1.1; simp only at *; omega
  clear h h' hf hb0
  go_enter Tryz.func29, Tryz.ntmps29
  go_upto_region 1 with fail
  generalize (w.alloc (.cells #[.slice qa ql qc, .int .i64 clock, .int .i64 epoch, .int .i64 next, .int .i64 serial, .slice aa al ac, .slice ma ml mc, .slice ca cl cc] 29)).alloc (.cells #[.slice ra ql rc, .int .i64 clock, .int .i64 epoch, .int .i64 next, .int .i64 serial, .slice ba al bc, .slice na ml nc, .slice da cl dc] 29) = w2 at P0 P1 HB0 ⊢
  have p0 := (unhide P0).at 0; have p1 := (unhide P0).at 1; have p2 := (unhide P0).at 2; have p3 := (unhide P0).at 3; have p4 := (unhide P0).at 4; have p5 := (unhide P0).at 5; have p6 := (unhide P0).at 6; have p7 := (unhide P0).at 7
  have q0 := (unhide P1).at 0; have q1 := (unhide P1).at 1; have q2 := (unhide P1).at 2; have q3 := (unhide P1).at 3; have q4 := (unhide P1).at 4; have q5 := (unhide P1).at 5; have q6 := (unhide P1).at 6; have q7 := (unhide P1).at 7
  simp at p0 p1 p2 p3 p4 p5 p6 p7 q0 q1 q2 q3 q4 q5 q6 q7
  go_wp2_with fail
  refine (unhide CQ _ (unhide HB0)).mono ?_
  rintro e w3 ⟨rfl, hb⟩
  have HB3 := hide (below_on (unhide HB0) hb)
  have P03 := hide ((unhide P0).below hb)
  have P13 := hide ((unhide P1).below hb)
  clear hb p0 p1 p2 p3 p4 p5 p6 p7 q0 q1 q2 q3 q4 q5 q6 q7 HB0 P0 P1
  have p0 := (unhide P03).at 0; have p1 := (unhide P03).at 1; have p2 := (unhide P03).at 2; have p3 := (unhide P03).at 3; have p4 := (unhide P03).at 4; have p5 := (unhide P03).at 5; have p6 := (unhide P03).at 6; have p7 := (unhide P03).at 7
  have q0 := (unhide P13).at 0; have q1 := (unhide P13).at 1; have q2 := (unhide P13).at 2; have q3 := (unhide P13).at 3; have q4 := (unhide P13).at 4; have q5 := (unhide P13).at 5; have q6 := (unhide P13).at 6; have q7 := (unhide P13).at 7
  simp at p0 p1 p2 p3 p4 p5 p6 p7 q0 q1 q2 q3 q4 q5 q6 q7
  go_wp2_with fail
  refine (unhide CC _ (unhide HB3)).mono ?_
  rintro e w4 ⟨rfl, hb⟩
  have HB4 := hide (below_on (unhide HB3) hb)
  have P04 := hide ((unhide P03).below hb)
  have P14 := hide ((unhide P13).below hb)
  clear hb p0 p1 p2 p3 p4 p5 p6 p7 q0 q1 q2 q3 q4 q5 q6 q7 HB3 P03 P13
  go_wp2
  go_loopw [5] (fun i wr => ∃ k : Nat, k ≤ al ∧ i = .int .i64 k ∧ Hid (Below w4.heap.size w4 wr)) (fun i _ => al - (intOf i).toNat)
  case atStart => exact ⟨0, Nat.zero_le _, rfl, hide (Below.refl _ _)⟩
  case round =>
    obtain ⟨k, hk, rfl, HB⟩ := hrel
    have p5 := ((unhide P04).below (unhide HB)).at 5
    have q5 := ((unhide P14).below (unhide HB)).at 5
    simp at p5 q5
    by_cases hlt : k < al
    · obtain ⟨b, off, rfl, hq⟩ := ((unhide HA).below (below_on (unhide HB4) (unhide HB))).at hlt
      obtain ⟨c, coff, rfl, hq'⟩ := ((unhide HA').below (below_on (unhide HB4) (unhide HB))).at hlt
      have hkl : k < apps.length := by have := unhide HLA; omega
      obtain ⟨xo, xl, xc, hx⟩ := hq hkl
      obtain ⟨yo, yl, yc, hy⟩ := hq' hkl
      obtain rfl : xl = yl := hx.2.2.2.1.1.trans hy.2.2.2.1.1.symm
      have hxl : xl ≤ 1048576 := by have := unhide HK apps[k] (List.getElem_mem _); have := hx.2.2.2.1.1; omega
      have A0 := hide (show ApplTwo w4 b (off + k * 3) c (coff + k * 3) apps[k] xo yo xl xc yc wr from ⟨hx, hy, unhide HB⟩)
      obtain ⟨q, hs⟩ : ∃ q, apps[k] = q := ⟨_, rfl⟩
      rw [hs] at A0
      have R := ApplTwo.read w4 b (off + k * 3) c (coff + k * 3) q xo yo xl xc yc
      have R2 := fun wx (hx : ApplTwo w4 b (off + k * 3) c (coff + k * 3) q xo yo xl xc yc wx) => (show wx.cell? ⟨w.heap.size, 5, none⟩ = some (.slice (some ⟨b, off, none⟩) al ac) ∧ wx.cell? ⟨w.heap.size + 1, 5, none⟩ = some (.slice (some ⟨c, coff, none⟩) al bc) from ⟨((unhide P04).below hx.2.2).at 5, ((unhide P14).below hx.2.2).at 5⟩)
      have k0 : (0 : Int) ≤ k := by omega
      have k1 : (k : Int) < al := by omega
      clear hq hq' hs hkl hx hy
      go_wp2_with fail
      go_region_held3 (fun wx => ApplTwo w4 b (off + k * 3) c (coff + k * 3) q xo yo xl xc yc wx)
        (first | (with_reducible assumption) | exact (unhide A0).drew | exact ApplTwo.call (by assumption) (by assumption))
        (first
        | (go_at_call 22; refine (sameApp_same _ _ xo yo xl xc yc q.asks _ ?_ ?_ hxl).mono ?_; (exact (show ApplTwo w4 b (off + k * 3) c (coff + k * 3) q xo yo xl xc yc _ by assumption).1.2.2.2.1); (exact (show ApplTwo w4 b (off + k * 3) c (coff + k * 3) q xo yo xl xc yc _ by assumption).2.1.2.2.2.1); rintro e wt ⟨rfl, hb⟩; have SA := ApplTwo.call (w0 := w4) (b := b) (p := off + k * 3) (c := c) (r := coff + k * 3) (q := q) (ao := xo) (bo := yo) (len := xl) (cap := xc) (ccap := yc) (by assumption) hb))
      have HB2 := hide SA.2.2
      clear SA R R2 A0 p5 q5
      go_wp2
      go_roundw
      case rel => exact ⟨k + 1, by omega, by go_num, HB2⟩
      case measure => simp [intOf]; omega
    · have P05 := hide ((unhide P04).below (unhide HB))
      have P15 := hide ((unhide P14).below (unhide HB))
      have HB5 := hide (below_on (unhide HB4) (unhide HB))
      obtain ⟨w5, rfl⟩ : ∃ w5, w5 = wr := ⟨wr, rfl⟩
      clear P04 P14 HB4 HB
      go_wp2
      go_loopw [6] (fun i wr => ∃ k : Nat, k ≤ ml ∧ i = .int .i64 k ∧ Hid (Below w5.heap.size w5 wr)) (fun i _ => ml - (intOf i).toNat)
      case atStart => exact ⟨0, Nat.zero_le _, rfl, hide (Below.refl _ _)⟩
      case round =>
        clear p5 q5
        obtain ⟨j, hj, rfl, HB⟩ := hrel
        have p6 := ((unhide P05).below (unhide HB)).at 6
        have q6 := ((unhide P15).below (unhide HB)).at 6
        simp at p6 q6
        by_cases hlt2 : j < ml
        · obtain ⟨b, off, rfl, hq⟩ := ((unhide HM).below (below_on (unhide HB5) (unhide HB))).at hlt2
          obtain ⟨c, coff, rfl, hq'⟩ := ((unhide HM').below (below_on (unhide HB5) (unhide HB))).at hlt2
          have hkl : j < ms.length := by have := unhide HLM; omega
          have A0 := hide (show MacTwo w5 b (off + j * 4) c (coff + j * 4) ms[j] wr from ⟨hq hkl, hq' hkl, unhide HB⟩)
          obtain ⟨q, hs⟩ : ∃ q, ms[j] = q := ⟨_, rfl⟩
          rw [hs] at A0
          have R := MacTwo.read w5 b (off + j * 4) c (coff + j * 4) q
          have R2 := fun wx (hx : MacTwo w5 b (off + j * 4) c (coff + j * 4) q wx) => (show wx.cell? ⟨w.heap.size, 6, none⟩ = some (.slice (some ⟨b, off, none⟩) ml mc) ∧ wx.cell? ⟨w.heap.size + 1, 6, none⟩ = some (.slice (some ⟨c, coff, none⟩) ml nc) from ⟨((unhide P05).below hx.2.2).at 6, ((unhide P15).below hx.2.2).at 6⟩)
          have j0 : (0 : Int) ≤ j := by omega
          have j1 : (j : Int) < ml := by omega
          clear hq hq' hs hkl
          go_wp2_with fail
          go_region_held3 (fun wx => MacTwo w5 b (off + j * 4) c (coff + j * 4) q wx)
            (first | (with_reducible assumption) | exact (unhide A0).drew)
            (fail)
          have HB2 := hide (unhide A0).2.2.drew
          clear R R2 A0 p6 q6
          go_wp2
          go_roundw
          case rel => exact ⟨j + 1, by omega, by go_num, HB2⟩
          case measure => simp [intOf]; omega
        · have HF := hide (below_on (unhide HB5) (unhide HB))
          go_wp2
          go_ret
          exact ⟨rfl, unhide HF⟩
end Go.Proofs.YtcplnodfcchdhaaGreat

/-
  The application of a number: AppOf, by the program and by the model; walks over the dump.
-/
namespace Go.Proofs.YtcplnodfcchdhaaGreat
open Go.RowKit Go.Maps
set_option linter.unusedVariables false
def appOfV (s : St) (id : Int) : Appl × Bool := match findAp id s.apps with
  | none => (⟨0, [], []⟩, false)
  | some a => (a, true)
theorem par_find {id : Int} (P : AV → Appl → Prop) (hid : ∀ v a, P v a → v.id = a.id) : ∀ (hs : List AV) (l : List Appl), hs.length = l.length → (∀ i (h : i < hs.length) (h' : i < l.length), P hs[i] l[i]) →
    (findA id hs = none ∧ findAp id l = none) ∨ ∃ v a, findA id hs = some v ∧ findAp id l = some a ∧ P v a ∧ a ∈ l
  | [], [], _, _ => .inl ⟨rfl, rfl⟩
  | v :: t, a :: r, h1, h2 => by
    have h0 := h2 0 (by simp) (by simp)
    simp only [List.getElem_cons_zero] at h0
    by_cases e : a.id = id
    · have e' : v.id = id := (hid _ _ h0).trans e
      exact .inr ⟨v, a, by simp [findA, e'], by simp [findAp, e], h0, by simp⟩
    · have e' : ¬ v.id = id := fun x => e ((hid _ _ h0).symm.trans x)
      rcases par_find P hid t r (by simpa using h1) (fun i a b => by have := h2 (i + 1) (by simpa using a) (by simpa using b); simpa using this) with ⟨x, y⟩ | ⟨v', a', x, y, z, m⟩
      · exact .inl ⟨by simpa [findA, e'] using x, by simpa [findAp, e] using y⟩
      · exact .inr ⟨v', a', by simpa [findA, e'] using x, by simpa [findAp, e] using y, z, List.mem_cons_of_mem _ m⟩
  | [], a :: r, h1, _ => by simp at h1
  | v :: t, [], h1, _ => by simp at h1
/-- behind the box of a state and the result's variable -/
def appW (w : World) (c : Array Value) : World := (w.alloc (.cells c 29)).alloc (.cells #[.int .i64 0, .string ByteArray.empty, .slice none 0 0] 41)
theorem appW_size (w : World) (c : Array Value) : (appW w c).heap.size = w.heap.size + 1 + 1 := by simp only [appW, al_size]
theorem appW_below (w : World) (c : Array Value) : Below w.heap.size w (appW w c) := below_al (below_al (Below.refl _ w) _) _
theorem appW_box (w : World) (c : Array Value) : Blk (appW w c) w.heap.size c 29 := (blk_new w c _).al _
theorem appW_var (w : World) (c : Array Value) : Blk (appW w c) (w.heap.size + 1) #[.int .i64 0, .string ByteArray.empty, .slice none 0 0] 41 := by
  have := blk_new (w.alloc (.cells c 29)) #[.int .i64 0, .string ByteArray.empty, .slice none 0 0] 41
  rwa [al_size] at this

set_option maxRecDepth 100000 in
set_option maxHeartbeats 4000000 in
theorem implAppOf_any (x : Sls) (s : St) (id : Int) (w : World) (h : SRow w x s) (hf : FitSt s) (hw : ∀ a ∈ s.apps, (Lit.int .i64 a.id).wf = true) (hi : (Lit.int .i64 id).wf = true) :
    Calls Tryz.prog 11 #[sv x s, .int .i64 id] w fun e w' => ∃ v, e = .returned (.tuple #[.agg #[.int .i64 (appOfV s id).1.id, .string (bs (appOfV s id).1.queue), v], .bool (appOfV s id).2]) ∧ Hid (AOwn w.heap.size w' v (appOfV s id).1.asks ∧ Below w.heap.size w w') := by
  have hal : x.al ≤ 1048576 := by have := h.len.2.1; have := hf.2.1.1; omega
  obtain ⟨hs, hav, hh⟩ := h.2.1.heads
  have hwf : ∀ v ∈ hs, (Lit.int .i64 v.id).wf = true := fun v hv => by
    obtain ⟨i, hi, rfl⟩ := List.mem_iff_getElem.1 hv
    have hi' : i < s.apps.length := by rw [← hh.1]; exact hi
    rw [(hh.2 i hi hi').1]
    exact hw _ (List.getElem_mem _)
  have CM := hide (fun wx (hb : Below w.heap.size w wx) => apps_ex x s hs wx (hav.below hb) hal hwf)
  obtain ⟨kl, hkey⟩ := keyKey (nm := []) (k := id) (by decide) hi
  have HKEY := hide hkey
  have hpf := par_find (id := id) (fun v a => v.id = a.id ∧ v.queue = a.queue ∧ AskRow w v.ao v.len a.asks ∧ v.len ≤ v.cap) (fun v a h => h.1) hs s.apps hh.1 hh.2
  have HPF := hide hpf
  have HFA := hide hf.2.1
  have HAV := hide (show appOfV s id = match findAp id s.apps with | none => (⟨0, [], []⟩, false) | some a => (a, true) from rfl)
  obtain ⟨⟨⟨ai, aq, aas⟩, fo⟩, hap⟩ : ∃ r, appOfV s id = r := ⟨_, rfl⟩
  rw [hap] at HAV ⊢
  clear h hf hw hi hav hh hwf hkey hpf hap
  obtain ⟨qa, ql, qc, aa, al, ac, ma, ml, mc, ca, cl, cc⟩ := x
  obtain ⟨qs, clock, epoch, next, serial, apps, ms, cs⟩ := s
  simp only at CM HPF HFA HAV hal ⊢
  have HB0 := hide (appW_below w (svc ⟨qa, ql, qc, aa, al, ac, ma, ml, mc, ca, cl, cc⟩ ⟨qs, clock, epoch, next, serial, apps, ms, cs⟩))
  have V0 := hide (appW_var w (svc ⟨qa, ql, qc, aa, al, ac, ma, ml, mc, ca, cl, cc⟩ ⟨qs, clock, epoch, next, serial, apps, ms, cs⟩))
  go_enter Tryz.func11, Tryz.ntmps11
  go_wp2_with fail
  refine (unhide CM _ (unhide HB0)).mono ?_
  rintro e w1 ⟨bm, rfl, ⟨hbm, D, hown, hk⟩, hb⟩
  have HB1 := hide (below_on (unhide HB0) hb)
  have V1 := hide ((unhide V0).below hb)
  obtain ⟨v, hlk, hv1, hv2⟩ := lookA hown hk (unhide HKEY)
  rcases unhide HPF with ⟨hf1, hf2⟩ | ⟨u, a, hf1, hf2, ⟨hu1, hu2, hu3, hu4⟩, hmem⟩
  · obtain rfl := hv2 hf1
    rw [hf1] at hlk
    rw [hf2] at HAV
    have hz := unhide HAV
    simp only [Prod.mk.injEq, Appl.mk.injEq] at hz
    obtain ⟨⟨rfl, rfl, rfl⟩, rfl⟩ := hz
    have hl2 : (Instr.lookup 77 (.map (some bm)) (.agg #[.string { data := #[] }, .int .i64 id]) true).run Tryz.prog w1 = .ok (.tuple #[.agg #[.int .i64 0, .string { data := #[] }, .slice none 0 0], .bool false]) w1 := hlk
    have hl3 : (Instr.lookup 77 (.map (some bm)) (.agg #[.string ByteArray.empty, .int .i64 id]) true).run Tryz.prog w1 = .ok (.tuple #[.agg #[.int .i64 0, .string { data := #[] }, .slice none 0 0], .bool false]) w1 := hlk
    have V2 := (unhide V1).al (.cells #[.int .i64 0, .string { data := #[] }, .slice none 0 0] 41)
    have HV2 := hide V2
    have t0 := V2.at 0
    have t1 := V2.at 1
    have t2 := V2.at 2
    have tf0 := V2.f 0
    have tf1 := V2.f 1
    have tf2 := V2.f 2
    simp at t0 t1 t2
    clear hlk hv1 hv2 hf1 hf2 hown hk hb V2 HPF
    go_wp2
    have X1 := (((unhide HV2).set 0 (.int .i64 0)).set 1 (.string { data := #[] })).set 2 (.slice none 0 0)
    have x0 := X1.at 0
    have x1 := X1.at 1
    have x2 := X1.at 2
    simp at x0 x1 x2
    refine bodyPost_ret (v := .tuple #[.agg #[.int .i64 0, .string { data := #[] }, .slice none 0 0], .bool false]) (by simp [results, Tryz.results11, go_sem, x0, x1, x2]) rfl ⟨_, rfl, hide ⟨aown_nil _ _, ?_⟩⟩
    exact below_sc (below_sc (below_sc (below_al (unhide HB1) _) _ _ _ (by omega)) _ _ _ (by omega)) _ _ _ (by omega)
  · have hvu := hv1 u hf1 rfl
    subst hvu
    rw [hf1] at hlk
    rw [hf2] at HAV
    have hz := unhide HAV
    simp only [Prod.mk.injEq] at hz
    obtain ⟨hza, rfl⟩ := hz
    subst hza
    obtain ⟨ui, uq, uo, ul, uc⟩ := v
    simp only at hu1 hu2 hu3 hu4
    subst hu1 hu2
    have hfa := (unhide HFA).2 _ hmem
    have hul : ul ≤ 1048576 := by have h1 := hu3.1; have h2 := hfa.2.1; simp only at h2; omega
    have CO := hide (fun wx (hb : Below w.heap.size w wx) => copyOfApp_any ui uq uo ul uc aas wx (hu3.below hb) hul hfa.1 hfa.2.2)
    have hl2 : (Instr.lookup 77 (.map (some bm)) (.agg #[.string { data := #[] }, .int .i64 id]) true).run Tryz.prog w1 = .ok (.tuple #[.agg #[.int .i64 ui, .string (bs uq), .slice uo ul uc], .bool true]) w1 := hlk
    have hl3 : (Instr.lookup 77 (.map (some bm)) (.agg #[.string ByteArray.empty, .int .i64 id]) true).run Tryz.prog w1 = .ok (.tuple #[.agg #[.int .i64 ui, .string (bs uq), .slice uo ul uc], .bool true]) w1 := hlk
    have HB2 := hide (below_al (unhide HB1) (.cells #[.int .i64 ui, .string (bs uq), .slice uo ul uc] 41))
    have V2 := hide ((unhide V1).al (.cells #[.int .i64 ui, .string (bs uq), .slice uo ul uc] 41))
    have hs1 : w.heap.size + 1 + 1 ≤ w1.heap.size := by have := hb.size; rw [appW_size] at this; exact this
    clear hlk hv1 hv2 hf1 hf2 hown hk hb HPF hu3 hu4 hmem hfa HAV HB1 V1 HB0 V0 CM HFA
    go_wp2_with fail
    refine (unhide CO _ (unhide HB2)).mono ?_
    rintro e w2 ⟨v, rfl, ho, hb⟩
    have HO := hide (ho.base (B' := w.heap.size + 2) (by rw [al_size]; omega))
    have HV3 := hide ((unhide V2).below hb)
    have HB3 := hide (below_on (unhide HB2) hb)
    obtain ⟨xo, xc, rfl, _⟩ := ho.row
    obtain ⟨n, hnn⟩ : ∃ n, aas.length = n := ⟨_, rfl⟩
    rw [hnn] at HO ⊢
    clear ho hb hnn CO HB2 V2 hl2 hl3
    have t0 := (unhide HV3).at 0
    have t1 := (unhide HV3).at 1
    have t2 := (unhide HV3).at 2
    have tf0 := (unhide HV3).f 0
    have tf1 := (unhide HV3).f 1
    have tf2 := (unhide HV3).f 2
    simp at t0 t1 t2
    go_wp2
    have X1 := (((unhide HV3).set 0 (.int .i64 ui)).set 1 (.string (bs uq))).set 2 (.slice xo n xc)
    have x0 := X1.at 0
    have x1 := X1.at 1
    have x2 := X1.at 2
    simp at x0 x1 x2
    refine bodyPost_ret (v := .tuple #[.agg #[.int .i64 ui, .string (bs uq), .slice xo n xc], .bool true]) (by simp [results, Tryz.results11, go_sem, x0, x1, x2]) rfl ⟨_, rfl, hide ⟨?_, ?_⟩⟩
    · exact ((((unhide HO).other3 (w.heap.size + 1) 0 (.int .i64 ui) (by omega)).other3 (w.heap.size + 1) 1 (.string (bs uq)) (by omega)).other3 (w.heap.size + 1) 2 (.slice xo n xc) (by omega)).base (by omega)
    · exact below_sc (below_sc (below_sc (unhide HB3) _ _ _ (by omega)) _ _ _ (by omega)) _ _ _ (by omega)
end Go.Proofs.YtcplnodfcchdhaaGreat
