/-
  What the laws' own draws do: a cursor over the code's bytes, and numbers and texts drawn by it, each within its bounds; walks over the dump.
-/
import Derived.Test.YthnkbdjombiodaaDoorGrow
import Derived.BigQuiet
import Derived.Deep.QuietTactic
import Derived.Deep.RegionWith
import Derived.Laws.IdiomStrings
namespace Go.Proofs.YthnkbdjombiodaaDoor
open Go.RowKit
set_option linter.unusedVariables false

theorem and_mask (x m : Int) (h0 : 0 ≤ m) (h1 : m < 9223372036854775808) : 0 ≤ bits .and .i64 x m ∧ bits .and .i64 x m ≤ m := by
  obtain ⟨M, rfl⟩ := Int.eq_ofNat_of_zero_le h0
  have hM : (BitVec.ofInt 64 (M : Int)).toNat = M := by rw [BitVec.toNat_ofInt]; omega
  have hle : (BitVec.ofInt 64 x &&& BitVec.ofInt 64 (M : Int)).toNat ≤ M := by
    rw [BitVec.toNat_and, hM]; exact Nat.and_le_right
  have e : bits .and .i64 x (M : Int) = IntKind.i64.wrap ((BitVec.ofInt 64 x &&& BitVec.ofInt 64 (M : Int)).toNat : Int) := rfl
  rw [e, IntKind.wrap_i64]
  omega

/-- the code's bytes can be read: nothing, or a row of bytes below block B -/
def Code (w : World) (B : Nat) (ao : Option Addr) (len : Nat) : Prop :=
  B ≤ w.heap.size ∧ len ≤ 1048576 ∧ (len = 0 ∨ ∃ b off, ∃ zs : Nat → Int, ao = some ⟨b, off, none⟩ ∧ b < B ∧ (∀ j, j < len → w.cell? ⟨b, off + j, none⟩ = some (.int .u8 (zs j))) ∧ ∀ j, 0 ≤ zs j ∧ zs j ≤ 255)
/-- block g is a cursor over the code -/
def Cur (w : World) (g : Nat) (ao : Option Addr) (len cap : Nat) : Prop :=
  ∃ (i : Nat) (h : Int), w.heap[g]? = some (.cells #[.slice ao len cap, .int .i64 (i : Int), .int .i64 h] 127 (0, 0)) ∧ i ≤ len
theorem Cur.lt {w : World} {g : Nat} {ao : Option Addr} {len cap : Nat} (h : Cur w g ao len cap) : g < w.heap.size := by
  obtain ⟨i, x, h, _⟩ := h
  exact lt_of_block h
theorem Code.below {w w' : World} {B B' : Nat} {ao : Option Addr} {len : Nat} (h : Code w B ao len) (hb : Below B' w w') (hB : B ≤ B') : Code w' B ao len := by
  refine ⟨Nat.le_trans h.1 hb.size, h.2.1, ?_⟩
  rcases h.2.2 with h0 | ⟨b, off, zs, h1, h2, h3, h4⟩
  · exact .inl h0
  · exact .inr ⟨b, off, zs, h1, h2, fun j hj => (hb.cell (p := ⟨b, off + j, none⟩) (by show b < B'; omega)).trans (h3 j hj), h4⟩
theorem Code.grown {w w' : World} {B g : Nat} {ao : Option Addr} {len : Nat} (h : Code w B ao len) (hg : w.grownBy w' (some g)) (hB : B ≤ g) : Code w' B ao len :=
  h.below (below_grownBy (Below.refl B w) hg h.1 hB) (Nat.le_refl _)
theorem Cur.below {w w' : World} {B g : Nat} {ao : Option Addr} {len cap : Nat} (h : Cur w g ao len cap) (hb : Below B w w') (hg : g < B) : Cur w' g ao len cap := by
  obtain ⟨i, x, h1, h2⟩ := h
  exact ⟨i, x, (hb.block g hg).trans h1, h2⟩

theorem cur_step1 {w : World} {g : Nat} {ao : Option Addr} {len cap i : Nat} {h : Int} (hg : w.heap[g]? = some (.cells #[.slice ao len cap, .int .i64 (i : Int), .int .i64 h] 127 (0, 0))) (H : Int) (n m : Nat) (hi : i ≤ len) :
    Cur (((w.setCell ⟨g, 2, none⟩ (.int .i64 H)).drewN n).drewN m) g ao len cap ∧ w.grownBy (((w.setCell ⟨g, 2, none⟩ (.int .i64 H)).drewN n).drewN m) (some g) := by
  refine ⟨⟨i, H, ?_, hi⟩, grownBy_drewN (grownBy_drewN (grownBy_set (grownBy_refl w _) 2 _) n) m⟩
  have := heap_setCell_same w g 2 _ _ (.int .i64 H) hg
  exact this.trans (by simp)
theorem cur_step2 {w : World} {g : Nat} {ao : Option Addr} {len cap i : Nat} {h : Int} (hg : w.heap[g]? = some (.cells #[.slice ao len cap, .int .i64 (i : Int), .int .i64 h] 127 (0, 0))) (H : Int) (n : Nat) (hi : i + 1 ≤ len) :
    Cur (((w.setCell ⟨g, 2, none⟩ (.int .i64 H)).drewN n).setCell ⟨g, 1, none⟩ (.int .i64 ((i : Int) + 1))) g ao len cap ∧ w.grownBy (((w.setCell ⟨g, 2, none⟩ (.int .i64 H)).drewN n).setCell ⟨g, 1, none⟩ (.int .i64 ((i : Int) + 1))) (some g) := by
  refine ⟨⟨i + 1, H, ?_, hi⟩, grownBy_set (grownBy_drewN (grownBy_set (grownBy_refl w _) 2 _) n) 1 _⟩
  have h1 := heap_setCell_same w g 2 _ _ (.int .i64 H) hg
  have h2 := heap_setCell_same ((w.setCell ⟨g, 2, none⟩ (.int .i64 H)).drewN n) g 1 _ _ (.int .i64 ((i : Int) + 1)) h1
  exact h2.trans (by simp)

set_option maxRecDepth 100000 in
set_option maxHeartbeats 2000000 in
theorem l01Byte_any (B g : Nat) (ao : Option Addr) (len cap : Nat) (w : World) (hcur : Cur w g ao len cap) (hcode : Code w B ao len) (hB : B ≤ g) :
    Calls Tryd.prog 61 #[.pointer (some ⟨g, 0, none⟩)] w fun e w' => ∃ x : Int, e = .returned (.int .i64 x) ∧ 0 ≤ x ∧ x ≤ 255 ∧ Cur w' g ao len cap ∧ w.grownBy w' (some g) := by
  obtain ⟨i, h, hg, hi⟩ := hcur
  have c0 : w.cell? ⟨g, 0, none⟩ = some (.slice ao len cap) := by simp [World.cell?, hg]
  have c1 : w.cell? ⟨g, 1, none⟩ = some (.int .i64 (i : Int)) := by simp [World.cell?, hg]
  have c2 : w.cell? ⟨g, 2, none⟩ = some (.int .i64 h) := by simp [World.cell?, hg]
  have f1 : w.frozen? ⟨g, 1, none⟩ = false := by simp [World.frozen?, hg]
  have f2 : w.frozen? ⟨g, 2, none⟩ = false := by simp [World.frozen?, hg]
  have HG := hide hg
  clear hg
  have hl := hcode.2.1
  by_cases hlt : i < len
  · rcases hcode.2.2 with h0 | ⟨b, off, zs, rfl, hbB, hz, hzs⟩
    · omega
    have hcz : ∀ v, (w.setCell ⟨g, 2, none⟩ v).cell? ⟨b, off + i, none⟩ = some (.int .u8 (zs i)) := fun v => (World.cell?_setCell_other _ ⟨g, 2, none⟩ ⟨b, off + i, none⟩ _ (by intro e; have := congrArg Addr.block e; simp at this; omega)).trans (hz i hlt)
    obtain ⟨hz0, hz1⟩ := hzs i
    have hlt2 : (i : Int) < (len : Int) := by omega
    clear hz hzs hcode
    go_enter Tryd.func61, Tryd.ntmps61
    go_wp2_with fail
    go_quiet (fail)
    go_wp2_with fail
    go_quiet (fail)
    go_wp2_with fail
    go_quiet (fail)
    go_wp2
    go_ret
    have hm := and_mask
    exact ⟨_, rfl, (hm _ 255 (by decide) (by decide)).1, (hm _ 255 (by decide) (by decide)).2, cur_step2 (unhide HG) _ _ (by omega)⟩
  · clear hcode
    go_enter Tryd.func61, Tryd.ntmps61
    go_wp2_with fail
    go_quiet (fail)
    go_wp2_with fail
    go_quiet (fail)
    go_wp2
    go_ret
    have hm := and_mask
    exact ⟨_, rfl, (hm _ 255 (by decide) (by decide)).1, (hm _ 255 (by decide) (by decide)).2, cur_step1 (unhide HG) _ _ _ hi⟩

set_option maxRecDepth 100000 in
set_option maxHeartbeats 1000000 in
theorem l01Below_any (B g : Nat) (ao : Option Addr) (len cap : Nat) (n : Int) (w : World) (hcur : Cur w g ao len cap) (hcode : Code w B ao len) (hB : B ≤ g) (hn0 : 0 < n) (hn1 : n ≤ 9223372036854775807) :
    Calls Tryd.prog 42 #[.pointer (some ⟨g, 0, none⟩), .int .i64 n] w fun e w' => ∃ x : Int, e = .returned (.int .i64 x) ∧ 0 ≤ x ∧ x < n ∧ Cur w' g ao len cap ∧ w.grownBy w' (some g) := by
  have HC := hide hcur
  have HK := hide hcode
  clear hcur hcode
  by_cases h256 : n ≤ 256
  · go_enter Tryd.func42, Tryd.ntmps42
    go_wp2_with fail
    refine (l01Byte_any B g ao len cap _ (unhide HC) (unhide HK) hB).mono ?_
    rintro e w1 ⟨x, rfl, hx0, hx1, hc1, hg1⟩
    have HC1 := hide hc1
    have HG1 := hide hg1
    clear hc1 hg1
    go_wp2
    go_ret
    exact ⟨_, rfl, Int.emod_nonneg _ (by omega), Int.emod_lt_of_pos _ hn0, unhide HC1, unhide HG1⟩
  · go_enter Tryd.func42, Tryd.ntmps42
    go_wp2_with fail
    refine (l01Byte_any B g ao len cap _ (unhide HC) (unhide HK) hB).mono ?_
    rintro e w1 ⟨x1, rfl, hx10, hx11, hc1, hg1⟩
    have HC1 := hide hc1
    have HK1 := hide ((unhide HK).grown hg1 hB)
    have HG1 := hide hg1
    clear hc1 hg1
    go_wp2_with fail
    refine (l01Byte_any B g ao len cap _ (unhide HC1) (unhide HK1) hB).mono ?_
    rintro e w2 ⟨x2, rfl, hx20, hx21, hc2, hg2⟩
    have HC2 := hide hc2
    have HK2 := hide ((unhide HK1).grown hg2 hB)
    have HG2 := hide (grownBy_trans (unhide HG1) hg2)
    clear hc2 hg2
    go_wp2_with fail
    refine (l01Byte_any B g ao len cap _ (unhide HC2) (unhide HK2) hB).mono ?_
    rintro e w3 ⟨x3, rfl, hx30, hx31, hc3, hg3⟩
    have HC3 := hide hc3
    have HK3 := hide ((unhide HK2).grown hg3 hB)
    have HG3 := hide (grownBy_trans (unhide HG2) hg3)
    clear hc3 hg3
    go_wp2_with fail
    refine (l01Byte_any B g ao len cap _ (unhide HC3) (unhide HK3) hB).mono ?_
    rintro e w4 ⟨x4, rfl, hx40, hx41, hc4, hg4⟩
    have HC4 := hide hc4
    have HG4 := hide (grownBy_trans (unhide HG3) hg4)
    clear hc4 hg4
    go_wp2
    go_ret
    exact ⟨_, rfl, Int.emod_nonneg _ (by omega), Int.emod_lt_of_pos _ hn0, unhide HC4, unhide HG4⟩
end Go.Proofs.YthnkbdjombiodaaDoor
