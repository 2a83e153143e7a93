/-
  The laws' own sameTexts and sameQueues, at lists that hold the same; walks over the dump.
-/
import Derived.Test.YtebaejokhpdbkaaGreatDoorPackD
import Derived.Deep.RegionHeld3
namespace Go.Proofs.YtebaejokhpdbkaaGreatDoor
open Go.RowKit
set_option linter.unusedVariables false
set_option linter.unusedSimpArgs false

/-- a list of texts as a slice, and where each stands -/
theorem texts_at {B : Nat} {w : World} {v : Value} {ps : List (List UInt8)} (h : Texts B w v ps) : ∃ ao cap, v = .slice ao ps.length cap ∧ (ps.length = 0 ∨ ∃ g, ao = some ⟨g, 0, none⟩ ∧ g < w.heap.size ∧ ∀ j (hj : j < ps.length), w.cell? ⟨g, j, none⟩ = some (.string (bs ps[j]))) := by
  by_cases h0 : ps.length = 0
  · rcases h.2 with ⟨rfl, _⟩ | ⟨g, cap, cur, rfl, _⟩
    · exact ⟨none, 0, by rw [h0], .inl h0⟩
    · exact ⟨some ⟨g, 0, none⟩, cap, by simp, .inl h0⟩
  · obtain ⟨g, cap, rfl, hs, _⟩ := ss_of_owns h (by simp; omega)
    refine ⟨some ⟨g, 0, none⟩, cap, by simp, .inr ⟨g, rfl, hs.lt, fun j hj => ?_⟩⟩
    have := hs.cell j (by simpa using hj)
    simpa using this
/-- two places hold one text; nothing of w has turned -/
def TTwo (w0 : World) (b p c r : Nat) (x : ByteArray) (w : World) : Prop := (w.cell? ⟨b, p, none⟩ = some (.string x) ∧ w.cell? ⟨c, r, none⟩ = some (.string x)) ∧ Below w0.heap.size w0 w
theorem TTwo.drew {w0 w : World} {b p c r : Nat} {x : ByteArray} (h : TTwo w0 b p c r x w) : TTwo w0 b p c r x w.drew := ⟨h.1, h.2.drew⟩
theorem TTwo.read (w0 : World) (b p c r : Nat) (x : ByteArray) : ∀ wx, TTwo w0 b p c r x wx → wx.cell? ⟨b, p, none⟩ = some (.string x) ∧ wx.cell? ⟨c, r, none⟩ = some (.string x) := fun wx h => h.1

set_option maxRecDepth 100000 in
set_option maxHeartbeats 2000000 in
theorem sameTexts_same (B B' : Nat) (v v' : Value) (ps : List (List UInt8)) (w : World) (h : Texts B w v ps) (h' : Texts B' w v' ps) (hl : ps.length ≤ 1048576) :
    Calls Tryz.prog 12 #[v, v'] w fun e w' => e = .returned (.bool true) ∧ Below w.heap.size w w' := by
  obtain ⟨ao, cap, rfl, hr⟩ := texts_at h
  obtain ⟨bo, ccap, rfl, hr'⟩ := texts_at h'
  have HR := hide hr
  have HR' := hide hr'
  obtain ⟨n, hn⟩ : ∃ n, ps.length = n := ⟨_, rfl⟩
  rw [hn] at hl ⊢
  have HN := hide hn
  clear h h' hr hr' hn
  go_enter Tryz.func12, Tryz.ntmps12
  go_wp2
  go_loopw [5] (fun i wr => ∃ k : Nat, k ≤ n ∧ i = .int .i64 k ∧ Hid (Below w.heap.size w wr)) (fun i _ => n - (intOf i).toNat)
  case atStart => exact ⟨0, Nat.zero_le _, rfl, hide (Below.refl _ _)⟩
  case round =>
    obtain ⟨k, hk, rfl, HB⟩ := hrel
    by_cases hlt : k < n
    · have hkl : k < ps.length := by have := unhide HN; omega
      obtain ⟨g, rfl, hg, hc⟩ : ∃ g, ao = some ⟨g, 0, none⟩ ∧ g < w.heap.size ∧ ∀ j (hj : j < ps.length), w.cell? ⟨g, j, none⟩ = some (.string (bs ps[j])) := by
        rcases unhide HR with e | e
        · omega
        · exact e
      obtain ⟨g', rfl, hg', hc'⟩ : ∃ g, bo = some ⟨g, 0, none⟩ ∧ g < w.heap.size ∧ ∀ j (hj : j < ps.length), w.cell? ⟨g, j, none⟩ = some (.string (bs ps[j])) := by
        rcases unhide HR' with e | e
        · omega
        · exact e
      have A0 := hide (show TTwo w g k g' k (bs ps[k]) wr from ⟨⟨((unhide HB).cell hg).trans (hc k hkl), ((unhide HB).cell hg').trans (hc' k hkl)⟩, unhide HB⟩)
      obtain ⟨x, hx⟩ : ∃ x, bs ps[k] = x := ⟨_, rfl⟩
      rw [hx] at A0
      have R := TTwo.read w g k g' k x
      have k0 : (0 : Int) ≤ k := by omega
      have k1 : (k : Int) < n := by omega
      clear hc hc' hx hkl hg hg'
      go_wp2_with fail
      go_region_held3 (fun wx => TTwo w g k g' k x wx)
        (first | (with_reducible assumption) | exact (unhide A0).drew)
        (fail)
      have HB2 := hide (unhide A0).2.drew
      clear R A0 HR HR'
      go_wp2
      go_roundw
      case rel => exact ⟨k + 1, by omega, by go_num, HB2⟩
      case measure => simp [intOf]; omega
    · go_wp2
      go_ret
      exact ⟨rfl, unhide HB⟩

/-- two places hold one queue; nothing of w has turned -/
def QTw (w0 : World) (b p c r : Nat) (q : Q) (w : World) : Prop := QAt w b p q ∧ QAt w c r q ∧ Below w0.heap.size w0 w
theorem QTw.drew {w0 w : World} {b p c r : Nat} {q : Q} (h : QTw w0 b p c r q w) : QTw w0 b p c r q w.drew := ⟨h.1.below (Below.refl _ _).drew, h.2.1.below (Below.refl _ _).drew, h.2.2.drew⟩
theorem QTw.read (w0 : World) (b p c r : Nat) (q : Q) : ∀ wx, QTw w0 b p c r q wx → (wx.cell? ⟨b, p, none⟩ = some (.string (bs q.name)) ∧ wx.cell? ⟨b, p + 1, none⟩ = some (.string (bs q.parent)) ∧ wx.cell? ⟨b, p + 2, none⟩ = some (.int .i64 q.due) ∧ wx.cell? ⟨b, p + 3, none⟩ = some (.int .i64 q.most)) ∧ wx.cell? ⟨c, r, none⟩ = some (.string (bs q.name)) ∧ wx.cell? ⟨c, r + 1, none⟩ = some (.string (bs q.parent)) ∧ wx.cell? ⟨c, r + 2, none⟩ = some (.int .i64 q.due) ∧ wx.cell? ⟨c, r + 3, none⟩ = some (.int .i64 q.most) := fun wx h => ⟨h.1, h.2.1⟩
set_option maxRecDepth 100000 in
set_option maxHeartbeats 2000000 in
theorem sameQueues_same (ao bo : Option Addr) (len cap ccap : Nat) (l : List Q) (w : World) (h : QRow w ao len l) (h' : QRow w bo len l) (hl : len ≤ 1048576) :
    Calls Tryz.prog 14 #[.slice ao len cap, .slice bo len ccap] w fun e w' => e = .returned (.bool true) ∧ Below w.heap.size w w' := by
  have HR := hide h
  have HR' := hide h'
  have HL := hide h.1
  clear h h'
  go_enter Tryz.func14, Tryz.ntmps14
  go_wp2
  go_loopw [5] (fun i wr => ∃ k : Nat, k ≤ len ∧ i = .int .i64 k ∧ Hid (Below w.heap.size w wr)) (fun i _ => len - (intOf i).toNat)
  case atStart => exact ⟨0, Nat.zero_le _, rfl, hide (Below.refl _ _)⟩
  case round =>
    obtain ⟨k, hk, rfl, HB⟩ := hrel
    by_cases hlt : k < len
    · obtain ⟨b, off, rfl, hq⟩ := ((unhide HR).below (unhide HB)).at hlt
      obtain ⟨c, coff, rfl, hq'⟩ := ((unhide HR').below (unhide HB)).at hlt
      have hkl : k < l.length := by have := unhide HL; omega
      have A0 := hide (show QTw w b (off + k * 4) c (coff + k * 4) l[k] wr from ⟨hq hkl, hq' hkl, unhide HB⟩)
      obtain ⟨q, hs⟩ : ∃ q, l[k] = q := ⟨_, rfl⟩
      rw [hs] at A0
      have R := QTw.read w b (off + k * 4) c (coff + k * 4) q
      have k0 : (0 : Int) ≤ k := by omega
      have k1 : (k : Int) < len := by omega
      clear hq hq' hs hkl
      go_wp2_with fail
      go_region_held3 (fun wx => QTw w b (off + k * 4) c (coff + k * 4) q wx)
        (first | (with_reducible assumption) | exact (unhide A0).drew)
        (fail)
      have HB2 := hide (unhide A0).2.2.drew
      clear R A0 HR HR'
      go_wp2
      go_roundw
      case rel => exact ⟨k + 1, by omega, by go_num, HB2⟩
      case measure => simp [intOf]; omega
    · go_wp2
      go_ret
      exact ⟨rfl, unhide HB⟩
/-- where the words of a list stand, in a later world -/
theorem pcells {w w' : World} {ao : Option Addr} {ps : List (List UInt8)} (h : ps.length = 0 ∨ ∃ g, ao = some ⟨g, 0, none⟩ ∧ g < w.heap.size ∧ ∀ j (hj : j < ps.length), w.cell? ⟨g, j, none⟩ = some (.string (bs ps[j]))) (hb : Below w.heap.size w w') :
    ps.length = 0 ∨ ∃ g, ao = some ⟨g, 0, none⟩ ∧ g < w'.heap.size ∧ ∀ j (hj : j < ps.length), w'.cell? ⟨g, j, none⟩ = some (.string (bs ps[j])) := by
  rcases h with h | ⟨g, e, hg, hc⟩
  · exact .inl h
  · exact .inr ⟨g, e, Nat.lt_of_lt_of_le hg hb.size, fun j hj => (hb.cell hg).trans (hc j hj)⟩
theorem q0cell {w : World} {qb n : Nat} {ls : List Q} (h : QRow w (some ⟨qb, 0, none⟩) n ls) (hn : 3 ≤ n) : ∃ h0 : 0 < ls.length, w.cell? ⟨qb, 0, none⟩ = some (.string (bs ls[0].name)) := by
  obtain ⟨b, off, e, hq⟩ := h.at (i := 0) (by omega)
  cases e
  have h0 : 0 < ls.length := by have := h.1; omega
  exact ⟨h0, by have := (hq h0).1; simpa using this⟩
end Go.Proofs.YtebaejokhpdbkaaGreatDoor
