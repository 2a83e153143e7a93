/-
  The table of sums within a reader, made once, and what a text sums to by it: walks over the dump (mksumr.py wrote this out of Once, Fill and SumI).
-/
import Derived.Test.YtobpjegfgegkcaaGreatDoorSumI
import Derived.Test.YtobpjegfgegkcaaGreatDoorPackA
namespace Go.Proofs.YtobpjegfgegkcaaGreatDoor
open Go.RowKit
set_option linter.unusedVariables false
/-- the table's cells: the once's word, the lock's state and its word, and the sixteen sums of which the first k are made -/
def tabLR (P : Value × Value × Value) (d m : Value) (k : Nat) : List Value := [P.1, P.2.1, P.2.2, d, m, .int .u32 0] ++ (List.range 16).map (fun i => Value.int .u32 (if i < k then (hN 4 i : Int) else 0))
def tabR (P : Value × Value × Value) (d m : Value) (k : Nat) : Array Value := (tabLR P d m k).toArray
theorem tab_sizeR {P : Value × Value × Value} (d m : Value) (k : Nat) : (tabR P d m k).size = 22 := by simp [tabR, tabLR]
def HoldsR (w : World) (B : Nat) (C : Array Value) : Prop := w.heap[B]? = some (.cells C 62 (0, 0))
theorem HoldsR.cell {w : World} {B : Nat} {C : Array Value} (h : HoldsR w B C) (j : Nat) : w.cell? ⟨B, j, none⟩ = C[j]? := by
  unfold HoldsR at h; simp [World.cell?, h]
theorem HoldsR.frozen {w : World} {B : Nat} {C : Array Value} (h : HoldsR w B C) (j : Nat) : w.frozen? ⟨B, j, none⟩ = false := by
  unfold HoldsR at h; simp [World.frozen?, h]
theorem HoldsR.set {w : World} {B : Nat} {C : Array Value} (h : HoldsR w B C) (j : Nat) (v : Value) : HoldsR (w.setCell ⟨B, j, none⟩ v) B (C.setIfInBounds j v) := heap_setCell_same w B j C _ v h
theorem HoldsR.drew {w : World} {B : Nat} {C : Array Value} (h : HoldsR w B C) : HoldsR w.drew B C := h
theorem HoldsR.lt {w : World} {B : Nat} {C : Array Value} (h : HoldsR w B C) : B < w.heap.size := lt_of_block h
theorem tab_set0R {P : Value × Value × Value} (d d' m : Value) (k : Nat) : (tabR P d m k).setIfInBounds 3 d' = tabR P d' m k := by simp [tabR, tabLR]
theorem tab_set1R {P : Value × Value × Value} (d m m' : Value) (k : Nat) : (tabR P d m k).setIfInBounds 4 m' = tabR P d m' k := by simp [tabR, tabLR]
theorem tab_at0R {P : Value × Value × Value} (d m : Value) (k : Nat) : (tabR P d m k)[3]? = some d := by simp [tabR, tabLR]
theorem tab_at1R {P : Value × Value × Value} (d m : Value) (k : Nat) : (tabR P d m k)[4]? = some m := by simp [tabR, tabLR]
theorem tab_atR {P : Value × Value × Value} (d m : Value) (k i : Nat) (h : i < 16) : (tabR P d m k)[6 + i]? = some (.int .u32 (if i < k then (hN 4 i : Int) else 0)) := by
  simp only [tabR, tabLR, List.getElem?_toArray]
  rw [List.getElem?_append_right (by simp)]
  simp [h]
theorem tab_setR {P : Value × Value × Value} (d m : Value) (k : Nat) (h : k < 16) : (tabR P d m k).setIfInBounds (6 + k) (.int .u32 (hN 4 k : Int)) = tabR P d m (k + 1) := by
  apply Array.ext_getElem?
  intro i
  rw [Array.getElem?_setIfInBounds]
  by_cases hi : 6 + k = i
  · rw [if_pos hi, if_pos (by rw [tab_sizeR]; omega), ← hi, tab_atR _ _ _ _ h, if_pos (by omega)]
  · rw [if_neg hi]
    by_cases h3 : i < 6
    · match i, h3 with
      | 0, _ => simp [tabR, tabLR]
      | 1, _ => simp [tabR, tabLR]
      | 2, _ => simp [tabR, tabLR]
      | 3, _ => rw [tab_at0R, tab_at0R]
      | 4, _ => rw [tab_at1R, tab_at1R]
      | 5, _ => simp [tabR, tabLR]
    · obtain ⟨n, rfl⟩ : ∃ n, i = 6 + n := ⟨i - 6, by omega⟩
      by_cases hn : n < 16
      · rw [tab_atR _ _ _ _ hn, tab_atR _ _ _ _ hn]
        by_cases hk : n < k
        · rw [if_pos hk, if_pos (by omega)]
        · rw [if_neg hk, if_neg (by omega)]
      · rw [Array.getElem?_eq_none (by rw [tab_sizeR]; omega), Array.getElem?_eq_none (by rw [tab_sizeR]; omega)]

/-- the sixteen sums are made -/
theorem below_setR {B : Nat} {w wr : World} (h : w.grownBy wr (some B)) (j : Nat) (v : Value) : w.grownBy (wr.setCell ⟨B, j, none⟩ v) (some B) := grownBy_set h j v
theorem fill_stepR {P : Value × Value × Value} {B k : Nat} {d m : Value} {w wr : World} (hk : k < 16) (h : HoldsR wr B (tabR P d m k)) (hb : w.grownBy wr (some B)) :
    HoldsR ((wr.setCell ⟨B, 6 + k, none⟩ (.int .u32 (hN 4 k : Int))).drew) B (tabR P d m (k + 1)) ∧ w.grownBy ((wr.setCell ⟨B, 6 + k, none⟩ (.int .u32 (hN 4 k : Int))).drew) (some B) := by
  refine ⟨?_, grownBy_drewN (below_setR hb _ _) 1⟩
  have := h.set (6 + k) (.int .u32 (hN 4 k : Int))
  rw [tab_setR d m k hk] at this
  exact this.drew

set_option maxRecDepth 100000 in
set_option maxHeartbeats 1000000 in
theorem fill_anyR {P : Value × Value × Value} (B : Nat) (d m : Value) (w : World) (h : HoldsR w B (tabR P d m 0)) :
    Calls Tryz.prog 68 #[.pointer (some ⟨B, 3, none⟩)] w fun e w' => e = .returned (.tuple #[]) ∧ HoldsR w' B (tabR P d m 16) ∧ w.grownBy w' (some B) := by
  go_enter Tryz.func68, Tryz.ntmps68
  go_wp2
  go_loopw [2, 3] (fun _ i wr => ∃ k : Nat, k ≤ 16 ∧ i = .int .i64 k ∧ HoldsR wr B (tabR P d m k) ∧ w.grownBy wr (some B)) (fun _ i _ => 16 - (intOf i).toNat)
  case atStart => exact ⟨0, Nat.zero_le _, rfl, h, grownBy_refl _ _⟩
  case round =>
    obtain ⟨k, hk, rfl, hh, hb⟩ := hrel
    have HH := hide hh
    have HB := hide hb
    by_cases hlt : k < 16
    · have hc : wr.cell? ⟨B, 6 + k, none⟩ = some (.int .u32 0) := by rw [hh.cell, tab_atR _ _ _ _ hlt, if_neg (by omega)]
      have hf : wr.frozen? ⟨B, 6 + k, none⟩ = false := hh.frozen _
      have hlt2 : (k : Int) < 16 := by omega
      have hk32 : k < 4294967296 := by omega
      have hwr : IntKind.u32.wrap (k : Int) = (k : Int) := by rw [IntKind.wrap_u32]; omega
      clear hh hb
      go_wp2_with fail
      go_region_with (go_at_call 72; refine (halveFour_any k _ hk32).mono ?_; rintro e w' ⟨rfl, rfl⟩)
      all_goals
        have R := fill_stepR hlt (unhide HH) (unhide HB)
        go_wp2
        go_roundw
        case rel => exact ⟨k + 1, by omega, by go_num, R.1, R.2⟩
        case measure => simp [intOf]; omega
    · have he : k = 16 := by omega
      subst he
      clear hh hb
      go_wp2
      go_end0
      exact ⟨rfl, unhide HH, unhide HB⟩

abbrev fillFR (B : Nat) : Value := .func (.func 68) #[.pointer (some ⟨B, 3, none⟩)] #[]
set_option maxRecDepth 100000 in
set_option maxHeartbeats 1600000 in
/-- the slow road of sync.Once: the lock is taken, the table is filled, the word is stored, the lock is let go -/
theorem slow_anyR {P : Value × Value × Value} (B : Nat) (w : World) (h : HoldsR w B (tabR P (.int .u32 0) (.int .i32 0) 0)) :
    Calls Tryz.prog 71 #[.pointer (some ⟨B, 3, none⟩), fillFR B] w fun e w' => e = .returned (.tuple #[]) ∧ HoldsR w' B (tabR P (.int .u32 1) (.int .i32 0) 16) ∧ w.grownBy w' (some B) := by
  have h0 : w.cell? ⟨B, 3, none⟩ = some (.int .u32 0) := by rw [h.cell, tab_at0R]
  have h1 : w.cell? ⟨B, 4, none⟩ = some (.int .i32 0) := by rw [h.cell, tab_at1R]
  have f1 : w.frozen? ⟨B, 4, none⟩ = false := h.frozen _
  have hs1 := h.set 4 (.int .i32 1)
  rw [tab_set1R] at hs1
  have hb1 := below_setR (grownBy_refl w (some B)) 4 (.int .i32 1)
  have hl := run_call_load (P := Tryz.prog) Tryz.func77 (by kernel_rfl) (by kernel_rfl) (by kernel_rfl) .u32 (by kernel_rfl) (w := w.setCell ⟨B, 4, none⟩ (.int .i32 1)) (a := ⟨B, 3, none⟩) (x := 0) (by rw [hs1.cell, tab_at0R])
  have hnot : ∀ (x : Bool) (w : World), (Op.unary .not (.bool x)).run Tryz.prog w = .ok (.bool (!x)) w := fun _ _ => rfl
  have HS := hide hs1
  have HB := hide hb1
  clear hs1 hb1 h
  go_enter_defers Tryz.func71, Tryz.ntmps71
  go_wp2_with (first | (go_at_call 78; refine (lock_free ⟨B, 4, none⟩ _ (by go_simp) (by go_simp)).mono ?_; rintro e w' ⟨rfl, rfl⟩) | (go_at_call 70; go_in))
  refine (fill_anyR B (.int .u32 0) (.int .i32 1) _ (unhide HS)).mono ?_
  rintro e w2 ⟨rfl, hs2, hb2⟩
  have HS2 := hide hs2
  have HB2 := hide (grownBy_trans (unhide HB) hb2)
  have g0 : w2.cell? ⟨B, 3, none⟩ = some (.int .u32 0) := by rw [hs2.cell, tab_at0R]
  have z0 : w2.frozen? ⟨B, 3, none⟩ = false := hs2.frozen _
  have hs3 := (hs2.drew).set 3 (.int .u32 1)
  rw [tab_set0R] at hs3
  have g1 : (w2.drew.setCell ⟨B, 3, none⟩ (.int .u32 1)).cell? ⟨B, 4, none⟩ = some (.int .i32 1) := by rw [hs3.cell, tab_at1R]
  have z1 : (w2.drew.setCell ⟨B, 3, none⟩ (.int .u32 1)).frozen? ⟨B, 4, none⟩ = false := hs3.frozen _
  have hs4 := hs3.set 4 (.int .i32 0)
  rw [tab_set1R] at hs4
  have HS4 := hide hs4
  have HB4 := hide (below_setR (below_setR (grownBy_drewN (unhide HB2) 1) 3 (.int .u32 1)) 4 (.int .i32 0))
  clear hs2 hb2 hs3 hs4
  go_wp2
  refine leaves_cons (f := 80) (args := #[.pointer (some ⟨B, 3, none⟩), .bool true]) (by simp) (by simp [go_sem]) ?_
  refine (store_deferred ⟨B, 3, none⟩ (.int .u32 0) .returning _ g0 z0).mono ?_
  rintro e u' w'' ⟨rfl, rfl, rfl⟩
  refine leaves_cons (f := 79) (args := #[.pointer (some ⟨B, 4, none⟩)]) (by simp [settle]) (by simp [go_sem]) ?_
  refine (unlock_deferred ⟨B, 4, none⟩ _ _ g1 z1).mono ?_
  rintro e u' w'' ⟨rfl, rfl, rfl⟩
  simp [Leaves, settle, results, Tryz.results71]
  exact ⟨unhide HS4, unhide HB4⟩

set_option maxRecDepth 100000 in
set_option maxHeartbeats 1600000 in
theorem do_firstR {P : Value × Value × Value} (B : Nat) (w : World) (h : HoldsR w B (tabR P (.int .u32 0) (.int .i32 0) 0)) :
    Calls Tryz.prog 67 #[.pointer (some ⟨B, 3, none⟩), fillFR B] w fun e w' => e = .returned (.tuple #[]) ∧ HoldsR w' B (tabR P (.int .u32 1) (.int .i32 0) 16) ∧ w.grownBy w' (some B) := by
  have hl := run_call_load (P := Tryz.prog) Tryz.func77 (by kernel_rfl) (by kernel_rfl) (by kernel_rfl) .u32 (by kernel_rfl) (w := w) (a := ⟨B, 3, none⟩) (x := 0) (by rw [h.cell, tab_at0R])
  have hnot : ∀ (x : Bool) (w : World), (Op.unary .not (.bool x)).run Tryz.prog w = .ok (.bool (!x)) w := fun _ _ => rfl
  have HH := hide h
  clear h
  go_enter Tryz.func67, Tryz.ntmps67
  go_wp2_with (first | (go_at_call 71; refine (slow_anyR B _ (unhide HH)).mono ?_; rintro e w2 ⟨rfl, hs2, hb2⟩) | (go_at_call 70; go_in))
  go_end0
  exact ⟨rfl, hs2, hb2⟩

set_option maxHeartbeats 400000 in
theorem do_doneR {P : Value × Value × Value} (B : Nat) (fv : Value) (w : World) (h : HoldsR w B (tabR P (.int .u32 1) (.int .i32 0) 16)) :
    Calls Tryz.prog 67 #[.pointer (some ⟨B, 3, none⟩), fv] w fun e w' => e = .returned (.tuple #[]) ∧ HoldsR w' B (tabR P (.int .u32 1) (.int .i32 0) 16) ∧ w.grownBy w' (some B) := by
  have hl := run_call_load (P := Tryz.prog) Tryz.func77 (by kernel_rfl) (by kernel_rfl) (by kernel_rfl) .u32 (by kernel_rfl) (w := w) (a := ⟨B, 3, none⟩) (x := 1) (by rw [h.cell, tab_at0R])
  have hnot : ∀ (x : Bool) (w : World), (Op.unary .not (.bool x)).run Tryz.prog w = .ok (.bool (!x)) w := fun _ _ => rfl
  have HH := hide h
  clear h
  go_enter Tryz.func67, Tryz.ntmps67
  go_wp2
  go_end0
  exact ⟨rfl, unhide HH, grownBy_refl _ _⟩

/-- the table stands as at the beginning, or is made -/
def TabledR (P : Value × Value × Value) (w : World) (B : Nat) : Prop := HoldsR w B (tabR P (.int .u32 0) (.int .i32 0) 0) ∨ HoldsR w B (tabR P (.int .u32 1) (.int .i32 0) 16)
theorem do_anyR {P : Value × Value × Value} (B : Nat) (w : World) (h : TabledR P w B) :
    Calls Tryz.prog 67 #[.pointer (some ⟨B, 3, none⟩), fillFR B] w fun e w' => e = .returned (.tuple #[]) ∧ HoldsR w' B (tabR P (.int .u32 1) (.int .i32 0) 16) ∧ w.grownBy w' (some B) := by
  rcases h with h | h
  · exact do_firstR B w h
  · exact do_doneR B _ w h
set_option maxRecDepth 100000 in
set_option maxHeartbeats 1000000 in
theorem shiftFour_anyR {P : Value × Value × Value} (B x : Nat) (w : World) (hx : x < 4294967296) (h : TabledR P w B) :
    Calls Tryz.prog 63 #[.pointer (some ⟨B, 3, none⟩), .int .u32 (x : Int)] w fun e w' => e = .returned (.int .u32 (hN 4 x : Int)) ∧ TabledR P w' B ∧ w.grownBy w' (some B) := by
  have hmf : ∀ (fn : Fn) (first cap : Array Value) (w : World), (Instr.makeFunc fn first cap).run Tryz.prog w = .ok (.func fn first cap) w := fun _ _ _ _ => rfl
  have HT := hide h
  clear h
  have ha : bits .and .u32 (x : Int) 15 = ((x % 16 : Nat) : Int) := by
    rw [show (15 : Int) = ((15 : Nat) : Int) from rfl, u32_and_nat _ _ hx (by decide), show (15 : Nat) = 2 ^ 4 - 1 from rfl, Nat.and_two_pow_sub_one_eq_mod]
  have hxr : bits .xor .u32 (hN 4 (x % 16) : Int) ((x : Int) / 16) = (hN 4 x : Int) := by
    rw [four_split x]; exact xor_int _ (x / 16) (hN_lt 4 (by omega)) (by omega)
  go_enter Tryz.func63, Tryz.ntmps63
  go_wp2_with fail
  refine (do_anyR B _ (unhide HT)).mono ?_
  rintro e w2 ⟨rfl, hs2, hb2⟩
  have HS := hide hs2
  have HB := hide hb2
  have hc : w2.cell? ⟨B, 6 + x % 16, none⟩ = some (.int .u32 (hN 4 (x % 16) : Int)) := by rw [hs2.cell, tab_atR _ _ _ _ (by omega), if_pos (by omega)]
  clear hs2 hb2
  go_wp2
  go_ret
  exact ⟨rfl, .inr (unhide HS), unhide HB⟩

set_option maxRecDepth 100000 in
set_option maxHeartbeats 1000000 in
theorem sumOf_anyR {P : Value × Value × Value} (B : Nat) (s : ByteArray) (w : World) (hs : s.size ≤ 1048576) (h : TabledR P w B) :
    Calls Tryz.prog 49 #[.pointer (some ⟨B, 3, none⟩), .string s] w fun e w' => e = .returned (.int .u32 (crc s.data.toList : Int)) ∧ TabledR P w' B ∧ w.grownBy w' (some B) := by
  have H0 := hide h
  clear h
  go_enter Tryz.func49, Tryz.ntmps49
  go_wp2
  go_loopw [5, 6, 9] (fun x _ i wr => ∃ k : Nat, k ≤ s.size ∧ i = .int .i64 k ∧ x = .int .u32 (ck s k : Int) ∧ TabledR P wr B ∧ w.grownBy wr (some B)) (fun _ _ i _ => s.size - (intOf i).toNat)
  case atStart =>
    exact ⟨0, Nat.zero_le _, rfl, by rw [ck_zero]; rfl, unhide H0, grownBy_refl _ _⟩
  case round =>
    obtain ⟨k, hk, rfl, rfl, ht, hb0⟩ := hrel
    have hlt32 := ck_lt s k
    by_cases hlt : k < s.size
    · have hb : (s[k].toNat : Int) ≤ 255 := byte_le _
      have hx : bits .xor .u32 (ck s k : Int) (s[k].toNat : Int) = ((ck s k ^^^ s[k].toNat : Nat) : Int) := xor_int _ _ hlt32 (byte_lt32 _)
      have hX : ck s k ^^^ s[k].toNat < 4294967296 := xor_lt32 hlt32 (byte_lt32 _)
      have hck : Hid (ck s (k + 1) = hN 4 (hN 4 (ck s k ^^^ s[k].toNat))) := hide (by rw [ck_succ s k hlt, ← hN_add])
      have hX4 := hN_lt 4 hX
      have HT := hide ht
      have HB := hide hb0
      clear ht hb0
      go_wp2_with fail
      refine (shiftFour_anyR B _ _ hX (unhide HT)).mono ?_
      rintro e w1 ⟨rfl, ht1, hb1⟩
      have HT1 := hide ht1
      have HB1 := hide (grownBy_trans (unhide HB) hb1)
      clear ht1 hb1
      go_wp2_with fail
      refine (shiftFour_anyR B _ _ hX4 (unhide HT1)).mono ?_
      rintro e w2 ⟨rfl, ht2, hb2⟩
      have HT2 := hide ht2
      have HB2 := hide (grownBy_trans (unhide HB1) hb2)
      clear ht2 hb2
      go_wp2
      go_roundw
      case rel => exact ⟨k + 1, by omega, by go_num, by rw [unhide hck], unhide HT2, unhide HB2⟩
      case measure => simp [intOf]; omega
    · have hx : bits .xor .u32 (ck s k : Int) 4294967295 = ((crc s.data.toList : Nat) : Int) := by
        rw [crc, ← ck_all s k (by omega)]; exact xor_int _ 4294967295 hlt32 (by decide)
      have HB := hide hb0
      have HT := hide ht
      clear ht hb0
      go_wp2
      go_ret
      exact ⟨rfl, unhide HT, unhide HB⟩

end Go.Proofs.YtobpjegfgegkcaaGreatDoor
