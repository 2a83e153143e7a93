/-
  The laws' own eqRecS, at rows that hold the same; walks over the dump (mkrow.py wrote this).
-/
import Derived.Test.YtmmdckakchconaaRcRow
import Derived.Test.YtmmdckakchconaaEqRec
import Derived.Deep.RegionHeld3
namespace Go.Proofs.Ytmmdckakchconaa
open Go.RowKit
set_option linter.unusedVariables false
/-- the same stands at two places -/
def RcTwo (w0 : World) (b p c r : Nat) (q : Rc) (w : World) : Prop := RcAt w b p q ∧ RcAt w c r q ∧ Below w0.heap.size w0 w
theorem RcTwo.call {w0 w w' : World} {b p c r : Nat} {q : Rc} (h : RcTwo w0 b p c r q w) (hb : Below w.heap.size w w') : RcTwo w0 b p c r q w' := ⟨h.1.below hb, h.2.1.below hb, below_on h.2.2 hb⟩
theorem RcTwo.drew {w0 w : World} {b p c r : Nat} {q : Rc} (h : RcTwo w0 b p c r q w) : RcTwo w0 b p c r q w.drew := h.call (Below.refl _ _).drew
theorem RcTwo.read (w0 : World) (b p c r : Nat) (q : Rc) : ∀ wx, RcTwo w0 b p c r q wx → wx.cell? ⟨b, p, none⟩ = some (.int .i64 q.kind) ∧ wx.cell? ⟨b, p + 1, none⟩ = some (.int .i64 q.app) ∧ wx.cell? ⟨b, p + 2, none⟩ = some (.string (bs q.queue))
    ∧ wx.cell? ⟨c, r, none⟩ = some (.int .i64 q.kind) ∧ wx.cell? ⟨c, r + 1, none⟩ = some (.int .i64 q.app) ∧ wx.cell? ⟨c, r + 2, none⟩ = some (.string (bs q.queue)) :=
  fun wx h => ⟨h.1.1, h.1.2.1, h.1.2.2, h.2.1.1, h.2.1.2.1, h.2.1.2.2⟩

set_option maxRecDepth 100000 in
set_option maxHeartbeats 2000000 in
theorem eqRecS_same (ao bo : Option Addr) (len cap ccap : Nat) (l : List Rc) (w : World) (h : RcRow w ao len l) (h' : RcRow w bo len l) (hl : len ≤ 1048576) :
    Calls Try.prog 10 #[.slice ao len cap, .slice bo len ccap] w fun e w' => e = .returned (.bool true) ∧ Below w.heap.size w w' := by
  have HR := hide h
  have HR' := hide h'
  have HL := hide h.1
  clear h h'
  go_enter Try.func10, Try.ntmps10
  go_wp2
  go_loopw [5] (fun i wr => ∃ k : Nat, k ≤ len ∧ i = .int .i64 k ∧ Hid (Below w.heap.size w wr)) (fun i _ => len - (intOf i).toNat)
  case atStart => exact ⟨0, Nat.zero_le _, rfl, hide (Below.refl _ _)⟩
  case round =>
    obtain ⟨k, hk, rfl, HB⟩ := hrel
    by_cases hlt : k < len
    · obtain ⟨b, off, rfl, hq⟩ := ((unhide HR).below (unhide HB)).at hlt
      obtain ⟨c, coff, rfl, hq'⟩ := ((unhide HR').below (unhide HB)).at hlt
      have hkl : k < l.length := by have := unhide HL; omega
      have A0 := hide (show RcTwo w b (off + k * 3) c (coff + k * 3) l[k] wr from ⟨hq hkl, hq' hkl, unhide HB⟩)
      obtain ⟨q, hs⟩ : ∃ q, l[k] = q := ⟨_, rfl⟩
      rw [hs] at A0
      have R := RcTwo.read w b (off + k * 3) c (coff + k * 3) q
      have k0 : (0 : Int) ≤ k := by omega
      have k1 : (k : Int) < len := by omega
      clear hq hq' hs hkl
      go_wp2_with fail
      go_region_held3 (fun wx => RcTwo w b (off + k * 3) c (coff + k * 3) q wx)
        (first | (with_reducible assumption) | exact (unhide A0).drew | exact RcTwo.call (by assumption) (by assumption))
        (first
        | (go_at_call 7; refine (eqRec_any q _).mono ?_; rintro e wt ⟨rfl, hb⟩; have SA := RcTwo.call (w0 := w) (b := b) (p := off + k * 3) (c := c) (r := coff + k * 3) (q := q) (by assumption) hb))
      have HB2 := hide SA.2.2
      clear SA R A0
      go_wp2
      go_roundw
      case rel => exact ⟨k + 1, by omega, by go_num, HB2⟩
      case measure => simp [intOf]; omega
    · go_wp2
      go_ret
      exact ⟨rfl, unhide HB⟩
end Go.Proofs.Ytmmdckakchconaa
