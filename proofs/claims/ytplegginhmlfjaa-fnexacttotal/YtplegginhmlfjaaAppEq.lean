/-
  The laws' own eqApp and eqAppS, at rows that hold the same; walks over the dump.
-/
import Derived.Test.YtplegginhmlfjaaAppV
import Derived.Test.YtplegginhmlfjaaAskEq
namespace Go.Proofs.Ytplegginhmlfjaa
open Go.RowKit
set_option linter.unusedVariables false

set_option maxRecDepth 100000 in
set_option maxHeartbeats 1000000 in
theorem eqApp_same (id : Int) (qu : List UInt8) (ao bo : Option Addr) (len cap ccap : Nat) (l : List Ask) (w : World) (h : AskRow w ao len l) (h' : AskRow w bo len l) (hl : len ≤ 1048576) :
    Calls Try.prog 93 #[applv id qu ao len cap, applv id qu bo len ccap] w fun e w' => e = .returned (.bool true) ∧ Below w.heap.size w w' := by
  have HB0 := hide (below_al (below_al (Below.refl _ w) (.cells #[.int .i64 id, .string (bs qu), .slice ao len cap] 112)) (.cells #[.int .i64 id, .string (bs qu), .slice bo len ccap] 112))
  have C := hide (fun wx (hb : Below w.heap.size w wx) => eqAskS_same ao bo len cap ccap l wx (h.below hb) (h'.below hb) hl)
  clear h h'
  go_enter Try.func93, Try.ntmps93
  go_wp2_with fail
  refine (unhide C _ ?_).mono ?_
  · first | exact unhide HB0 | exact (unhide HB0).drew | exact (unhide HB0).drew.drew | exact below_dn (unhide HB0) _
  rintro e w1 ⟨rfl, hb⟩
  have HB1 := hide (show Below w.heap.size w w1 by first | exact below_on (unhide HB0) hb | exact below_on (unhide HB0).drew hb | exact below_on (unhide HB0).drew.drew hb | exact below_on (below_dn (unhide HB0) _) hb)
  clear hb C HB0
  go_wp2
  go_ret
  exact ⟨rfl, unhide HB1⟩

/-- the same stands at two places -/
def ApplTwo (w0 : World) (b p c r : Nat) (q : Appl) (ao bo : Option Addr) (len cap ccap : Nat) (w : World) : Prop := ApplAt w b p q ao len cap ∧ ApplAt w c r q bo len ccap ∧ Below w0.heap.size w0 w
theorem ApplTwo.call {w0 w w' : World} {b p c r : Nat} {q : Appl} {ao bo : Option Addr} {len cap ccap : Nat} (h : ApplTwo w0 b p c r q ao bo len cap ccap w) (hb : Below w.heap.size w w') : ApplTwo w0 b p c r q ao bo len cap ccap w' := ⟨h.1.below hb, h.2.1.below hb, below_on h.2.2 hb⟩
theorem ApplTwo.drew {w0 w : World} {b p c r : Nat} {q : Appl} {ao bo : Option Addr} {len cap ccap : Nat} (h : ApplTwo w0 b p c r q ao bo len cap ccap w) : ApplTwo w0 b p c r q ao bo len cap ccap w.drew := h.call (Below.refl _ _).drew
theorem ApplTwo.read (w0 : World) (b p c r : Nat) (q : Appl) (ao bo : Option Addr) (len cap ccap : Nat) : ∀ wx, ApplTwo w0 b p c r q ao bo len cap ccap wx → wx.cell? ⟨b, p, none⟩ = some (.int .i64 q.id) ∧ wx.cell? ⟨b, p + 1, none⟩ = some (.string (bs q.queue)) ∧ wx.cell? ⟨b, p + 2, none⟩ = some (.slice ao len cap)
    ∧ wx.cell? ⟨c, r, none⟩ = some (.int .i64 q.id) ∧ wx.cell? ⟨c, r + 1, none⟩ = some (.string (bs q.queue)) ∧ wx.cell? ⟨c, r + 2, none⟩ = some (.slice bo len ccap) :=
  fun wx h => ⟨h.1.1, h.1.2.1, h.1.2.2.1, h.2.1.1, h.2.1.2.1, h.2.1.2.2.1⟩

set_option maxRecDepth 100000 in
set_option maxHeartbeats 2000000 in
theorem eqAppS_same (ao bo : Option Addr) (len cap ccap : Nat) (l : List Appl) (w : World) (h : ApplRow w ao len l) (h' : ApplRow w bo len l) (hl : len ≤ 1048576) (hk : ∀ q ∈ l, q.asks.length ≤ 1048576) :
    Calls Try.prog 46 #[.slice ao len cap, .slice bo len ccap] w fun e w' => e = .returned (.bool true) ∧ Below w.heap.size w w' := by
  have HR := hide h
  have HR' := hide h'
  have HL := hide h.1
  have HK := hide hk
  clear h h' hk
  go_enter Try.func46, Try.ntmps46
  go_wp2
  go_loopw [5] (fun i wr => ∃ k : Nat, k ≤ len ∧ i = .int .i64 k ∧ Hid (Below w.heap.size w wr)) (fun i _ => len - (intOf i).toNat)
  case atStart => exact ⟨0, Nat.zero_le _, rfl, hide (Below.refl _ _)⟩
  case round =>
    obtain ⟨k, hk, rfl, HB⟩ := hrel
    by_cases hlt : k < len
    · obtain ⟨b, off, rfl, hq⟩ := ((unhide HR).below (unhide HB)).at hlt
      obtain ⟨c, coff, rfl, hq'⟩ := ((unhide HR').below (unhide HB)).at hlt
      have hkl : k < l.length := by have := unhide HL; omega
      obtain ⟨xo, xl, xc, hx⟩ := hq hkl
      obtain ⟨yo, yl, yc, hy⟩ := hq' hkl
      obtain rfl : xl = yl := hx.2.2.2.1.1.trans hy.2.2.2.1.1.symm
      have hxl : xl ≤ 1048576 := by have := unhide HK l[k] (List.getElem_mem _); have := hx.2.2.2.1.1; omega
      have A0 := hide (show ApplTwo w b (off + k * 3) c (coff + k * 3) l[k] xo yo xl xc yc wr from ⟨hx, hy, unhide HB⟩)
      obtain ⟨q, hs⟩ : ∃ q, l[k] = q := ⟨_, rfl⟩
      rw [hs] at A0
      have R := ApplTwo.read w b (off + k * 3) c (coff + k * 3) q xo yo xl xc yc
      have k0 : (0 : Int) ≤ k := by omega
      have k1 : (k : Int) < len := by omega
      clear hq hq' hs hkl hx hy
      go_wp2_with fail
      go_region_held3 (fun wx => ApplTwo w b (off + k * 3) c (coff + k * 3) q xo yo xl xc yc wx)
        (first | (with_reducible assumption) | exact (unhide A0).drew | exact ApplTwo.call (by assumption) (by assumption))
        (first
        | (go_at_call 93; refine (eqApp_same _ _ xo yo xl xc yc q.asks _ ?_ ?_ hxl).mono ?_; (exact (show ApplTwo w b (off + k * 3) c (coff + k * 3) q xo yo xl xc yc _ by assumption).1.2.2.2.1); (exact (show ApplTwo w b (off + k * 3) c (coff + k * 3) q xo yo xl xc yc _ by assumption).2.1.2.2.2.1); rintro e wt ⟨rfl, hb⟩; have SA := ApplTwo.call (w0 := w) (b := b) (p := off + k * 3) (c := c) (r := coff + k * 3) (q := q) (ao := xo) (bo := yo) (len := xl) (cap := xc) (ccap := yc) (by assumption) hb))
      have HB2 := hide SA.2.2
      clear SA R A0
      go_wp2
      go_roundw
      case rel => exact ⟨k + 1, by omega, by go_num, HB2⟩
      case measure => simp [intOf]; omega
    · go_wp2
      go_ret
      exact ⟨rfl, unhide HB⟩
end Go.Proofs.Ytplegginhmlfjaa
