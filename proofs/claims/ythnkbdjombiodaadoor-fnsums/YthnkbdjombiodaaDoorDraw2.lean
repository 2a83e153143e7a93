/-
  The cursor made anew, and what is drawn by it: numbers out of a list, and texts of so many bytes; walks over the dump.
-/
import Derived.Test.YthnkbdjombiodaaDoorDraw
import Derived.Laws.IdiomStrings
namespace Go.Proofs.YthnkbdjombiodaaDoor
open Go.RowKit
set_option linter.unusedVariables false

/-- the cursor at block g stands, the code can be read, and of what w0 held nothing but block g has turned -/
def St (w0 : World) (B g : Nat) (ao : Option Addr) (len cap : Nat) (w : World) : Prop := Cur w g ao len cap ∧ Code w B ao len ∧ w0.grownBy w (some g) ∧ B ≤ g
theorem St.step {w0 w w' : World} {B g : Nat} {ao : Option Addr} {len cap : Nat} (h : St w0 B g ao len cap w) (hc : Cur w' g ao len cap) (hg : w.grownBy w' (some g)) : St w0 B g ao len cap w' :=
  ⟨hc, h.2.1.grown hg h.2.2.2, grownBy_trans h.2.2.1 hg, h.2.2.2⟩
theorem St.below {w0 w w' : World} {B g : Nat} {ao : Option Addr} {len cap : Nat} (h : St w0 B g ao len cap w) (hb : Below w.heap.size w w') : St w0 B g ao len cap w' :=
  ⟨h.1.below hb h.1.lt, h.2.1.below hb h.2.1.1, grownBy_below h.2.2.1 hb, h.2.2.2⟩
theorem St.alloc {w0 w : World} {B g : Nat} {ao : Option Addr} {len cap : Nat} (h : St w0 B g ao len cap w) (o : Obj) : St w0 B g ao len cap (w.alloc o) := h.below ((Below.refl _ _).alloc (Nat.le_refl _) o)
theorem St.done {w0 w : World} {B g : Nat} {ao : Option Addr} {len cap : Nat} (h : St w0 B g ao len cap w) (hg : w0.heap.size ≤ g) : Below w0.heap.size w0 w := below_grownBy (Below.refl _ _) h.2.2.1 (Nat.le_refl _) hg

theorem below_st {w0 : World} {B g : Nat} {ao : Option Addr} {len cap : Nat} (n : Int) (w : World) (h : St w0 B g ao len cap w) (hn0 : 0 < n) (hn1 : n ≤ 9223372036854775807) :
    Calls Tryd.prog 42 #[.pointer (some ⟨g, 0, none⟩), .int .i64 n] w fun e w' => ∃ x : Int, e = .returned (.int .i64 x) ∧ 0 ≤ x ∧ x < n ∧ St w0 B g ao len cap w' ∧ w.grownBy w' (some g) :=
  (l01Below_any B g ao len cap n w h.1 h.2.1 h.2.2.2 hn0 hn1).mono fun e w' ⟨x, h1, h2, h3, h4, h5⟩ => ⟨x, h1, h2, h3, h.step h4 h5, h5⟩
set_option maxRecDepth 100000 in
set_option maxHeartbeats 1000000 in
theorem new_st (B : Nat) (ao : Option Addr) (len cap : Nat) (w : World) (hcode : Code w B ao len) :
    Calls Tryd.prog 40 #[.slice ao len cap] w fun e w' => e = .returned (.pointer (some ⟨w.heap.size, 0, none⟩)) ∧ St w B w.heap.size ao len cap w' := by
  have hl := hcode.2.1
  have HK := hide hcode
  go_enter Tryd.func40, Tryd.ntmps40
  go_wp2
  go_loop [3, 4] (fun v i => ∃ (k : Nat) (h : Int), k ≤ len ∧ i = .int .i64 (k : Int) ∧ v = .int .i64 h ∧ 0 ≤ h ∧ h ≤ 1073741823) (fun _ i => len - (intOf i).toNat)
  case atStart => exact ⟨0, _, Nat.zero_le _, rfl, rfl, by omega, by omega⟩
  case round =>
    obtain ⟨k, h, hk, rfl, rfl, hh0, hh1⟩ := hrel
    by_cases hlt : k < len
    · rcases hcode.2.2 with h0 | ⟨b, off, zs, rfl, hbB, hz, hzs⟩
      · omega
      by_cases h4 : k < 4000
      · have hcz := hz k hlt
        obtain ⟨hz0, hz1⟩ := hzs k
        have hlt2 : (k : Int) < (len : Int) := by omega
        have hm := hide (and_mask (h * 131 + zs k + 7) 1073741823 (by decide) (by decide))
        clear hz hzs hcode
        go_wp2
        go_round
        case rel => exact ⟨k + 1, _, by omega, by go_num, rfl, (unhide hm).1, (unhide hm).2⟩
        case measure => simp [intOf]; omega
      · clear hz hzs hcode
        go_wp2
        go_ret
        refine ⟨rfl, ⟨0, h, ?_, Nat.zero_le _⟩, (unhide HK).below ((Below.refl _ _).alloc (Nat.le_refl _) _) (unhide HK).1, grownBy_below (grownBy_refl w _) ((Below.refl _ _).alloc (Nat.le_refl _) _), (unhide HK).1⟩
        show (w.heap.push _)[w.heap.size]? = _
        simp
    · clear hcode
      go_wp2
      go_ret
      refine ⟨rfl, ⟨0, h, ?_, Nat.zero_le _⟩, (unhide HK).below ((Below.refl _ _).alloc (Nat.le_refl _) _) (unhide HK).1, grownBy_below (grownBy_refl w _) ((Below.refl _ _).alloc (Nat.le_refl _) _), (unhide HK).1⟩
      show (w.heap.push _)[w.heap.size]? = _
      simp

/-- block q holds a list of so many ints -/
def Ints (w : World) (q L : Nat) : Prop := q < w.heap.size ∧ ∀ j, j < L → ∃ z : Int, w.cell? ⟨q, j, none⟩ = some (.int .i64 z) ∧ -9223372036854775808 ≤ z ∧ z ≤ 9223372036854775807
set_option maxRecDepth 100000 in
set_option maxHeartbeats 1000000 in
theorem pick_st {w0 : World} {B g : Nat} {ao : Option Addr} {len cap : Nat} (q L c : Nat) (w : World) (h : St w0 B g ao len cap w) (hq : Ints w q L) (hne : q ≠ g) (hL : 0 < L) (hL1 : L ≤ 1000) :
    Calls Tryd.prog 46 #[.pointer (some ⟨g, 0, none⟩), .slice (some ⟨q, 0, none⟩) L c] w fun e w' => ∃ x : Int, e = .returned (.int .i64 x) ∧ -9223372036854775808 ≤ x ∧ x ≤ 9223372036854775807 ∧ St w0 B g ao len cap w' := by
  have HS := hide h
  clear h
  go_enter Tryd.func46, Tryd.ntmps46
  go_wp2_with fail
  refine (below_st _ _ (unhide HS) (by omega) (by omega)).mono ?_
  rintro e w1 ⟨x, rfl, hx0, hx1, hs1, hg1⟩
  obtain ⟨X, rfl⟩ := Int.eq_ofNat_of_zero_le hx0
  obtain ⟨z, hz, hz0, hz1⟩ := hq.2 X (by omega)
  have hc : w1.cell? ⟨q, X, none⟩ = some (.int .i64 z) := (World.cell?_of_block (w := w) (a := ⟨q, X, none⟩) (hg1.block q hq.1 (fun e => hne (Option.some.inj e)))).trans hz
  have HS1 := hide hs1
  clear hs1 hg1 hz hq
  go_wp2
  go_ret
  exact ⟨z, rfl, hz0, hz1, unhide HS1⟩
theorem ints_alloc (w : World) (t : TypeId) (zs : List Int) (h : zs.all (fun z => decide (-9223372036854775808 ≤ z) && decide (z ≤ 9223372036854775807)) = true) : Ints (w.alloc (.cells (zs.map (Value.int .i64)).toArray t)) w.heap.size zs.length := by
  refine ⟨by simp, fun j hj => ⟨zs[j], ?_, ?_⟩⟩
  · rw [World.cell?_alloc_mark]; simp [hj]
  · have := List.all_eq_true.1 h zs[j] (List.getElem_mem hj)
    simpa using this
end Go.Proofs.YthnkbdjombiodaaDoor
