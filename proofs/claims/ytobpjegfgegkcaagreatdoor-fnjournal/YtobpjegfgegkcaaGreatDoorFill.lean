/-
  The table of sums: filled, made once, and used: walks over the dump.
-/
import Derived.Test.YtobpjegfgegkcaaGreatDoorOnce
namespace Go.Proofs.YtobpjegfgegkcaaGreatDoor
open Go.RowKit
set_option linter.unusedVariables false
/-- the sixteen sums are made -/
theorem below_set {B : Nat} {w wr : World} (h : Below B w wr) (j : Nat) (v : Value) : Below B w (wr.setCell ⟨B, j, none⟩ v) := h.setCell (Nat.le_refl _) v
theorem fill_step {B k : Nat} {d m : Value} {w wr : World} (hk : k < 16) (h : Holds wr B (tab d m k)) (hb : Below B w wr) :
    Holds ((wr.setCell ⟨B, 3 + k, none⟩ (.int .u32 (hN 4 k : Int))).drew) B (tab d m (k + 1)) ∧ Below B w ((wr.setCell ⟨B, 3 + k, none⟩ (.int .u32 (hN 4 k : Int))).drew) := by
  refine ⟨?_, (below_set hb _ _).drew⟩
  have := h.set (3 + k) (.int .u32 (hN 4 k : Int))
  rw [tab_set d m k hk] at this
  exact this.drew

set_option maxRecDepth 100000 in
set_option maxHeartbeats 1000000 in
theorem fill_any (B : Nat) (d m : Value) (w : World) (h : Holds w B (tab d m 0)) :
    Calls Tryz.prog 68 #[.pointer (some ⟨B, 0, none⟩)] w fun e w' => e = .returned (.tuple #[]) ∧ Holds w' B (tab d m 16) ∧ Below B w w' := by
  go_enter Tryz.func68, Tryz.ntmps68
  go_wp2
  go_loopw [2, 3] (fun _ i wr => ∃ k : Nat, k ≤ 16 ∧ i = .int .i64 k ∧ Holds wr B (tab d m k) ∧ Below B w wr) (fun _ i _ => 16 - (intOf i).toNat)
  case atStart => exact ⟨0, Nat.zero_le _, rfl, h, Below.refl _ _⟩
  case round =>
    obtain ⟨k, hk, rfl, hh, hb⟩ := hrel
    have HH := hide hh
    have HB := hide hb
    by_cases hlt : k < 16
    · have hc : wr.cell? ⟨B, 3 + k, none⟩ = some (.int .u32 0) := by rw [hh.cell, tab_at _ _ _ _ hlt, if_neg (by omega)]
      have hf : wr.frozen? ⟨B, 3 + k, none⟩ = false := hh.frozen _
      have hlt2 : (k : Int) < 16 := by omega
      have hk32 : k < 4294967296 := by omega
      have hwr : IntKind.u32.wrap (k : Int) = (k : Int) := by rw [IntKind.wrap_u32]; omega
      clear hh hb
      go_wp2_with fail
      go_region_with (go_at_call 72; refine (halveFour_any k _ hk32).mono ?_; rintro e w' ⟨rfl, rfl⟩)
      all_goals
        have R := fill_step hlt (unhide HH) (unhide HB)
        go_wp2
        go_roundw
        case rel => exact ⟨k + 1, by omega, by go_num, R.1, R.2⟩
        case measure => simp [intOf]; omega
    · have he : k = 16 := by omega
      subst he
      clear hh hb
      go_wp2
      go_end0
      exact ⟨rfl, unhide HH, unhide HB⟩

abbrev fillF (B : Nat) : Value := .func (.func 68) #[.pointer (some ⟨B, 0, none⟩)] #[]
set_option maxRecDepth 100000 in
set_option maxHeartbeats 1600000 in
/-- the slow road of sync.Once: the lock is taken, the table is filled, the word is stored, the lock is let go -/
theorem slow_any (B : Nat) (w : World) (h : Holds w B (tab (.int .u32 0) (.int .i32 0) 0)) :
    Calls Tryz.prog 71 #[.pointer (some ⟨B, 0, none⟩), fillF B] w fun e w' => e = .returned (.tuple #[]) ∧ Holds w' B (tab (.int .u32 1) (.int .i32 0) 16) ∧ Below B w w' := by
  have h0 : w.cell? ⟨B, 0, none⟩ = some (.int .u32 0) := by rw [h.cell, tab_at0]
  have h1 : w.cell? ⟨B, 1, none⟩ = some (.int .i32 0) := by rw [h.cell, tab_at1]
  have f1 : w.frozen? ⟨B, 1, none⟩ = false := h.frozen _
  have hs1 := h.set 1 (.int .i32 1)
  rw [tab_set1] at hs1
  have hb1 := below_set (Below.refl B w) 1 (.int .i32 1)
  have hl := run_call_load (P := Tryz.prog) Tryz.func77 (by kernel_rfl) (by kernel_rfl) (by kernel_rfl) .u32 (by kernel_rfl) (w := w.setCell ⟨B, 1, none⟩ (.int .i32 1)) (a := ⟨B, 0, none⟩) (x := 0) (by rw [hs1.cell, tab_at0])
  have hnot : ∀ (x : Bool) (w : World), (Op.unary .not (.bool x)).run Tryz.prog w = .ok (.bool (!x)) w := fun _ _ => rfl
  have HS := hide hs1
  have HB := hide hb1
  clear hs1 hb1 h
  go_enter_defers Tryz.func71, Tryz.ntmps71
  go_wp2_with (first | (go_at_call 78; refine (lock_free ⟨B, 1, none⟩ _ (by go_simp) (by go_simp)).mono ?_; rintro e w' ⟨rfl, rfl⟩) | (go_at_call 70; go_in))
  refine (fill_any B (.int .u32 0) (.int .i32 1) _ (unhide HS)).mono ?_
  rintro e w2 ⟨rfl, hs2, hb2⟩
  have HS2 := hide hs2
  have HB2 := hide (Below.trans (unhide HB) hb2)
  have g0 : w2.cell? ⟨B, 0, none⟩ = some (.int .u32 0) := by rw [hs2.cell, tab_at0]
  have z0 : w2.frozen? ⟨B, 0, none⟩ = false := hs2.frozen _
  have hs3 := (hs2.drew).set 0 (.int .u32 1)
  rw [tab_set0] at hs3
  have g1 : (w2.drew.setCell ⟨B, 0, none⟩ (.int .u32 1)).cell? ⟨B, 1, none⟩ = some (.int .i32 1) := by rw [hs3.cell, tab_at1]
  have z1 : (w2.drew.setCell ⟨B, 0, none⟩ (.int .u32 1)).frozen? ⟨B, 1, none⟩ = false := hs3.frozen _
  have hs4 := hs3.set 1 (.int .i32 0)
  rw [tab_set1] at hs4
  have HS4 := hide hs4
  have HB4 := hide (below_set (below_set ((unhide HB2).drew) 0 (.int .u32 1)) 1 (.int .i32 0))
  clear hs2 hb2 hs3 hs4
  go_wp2
  refine leaves_cons (f := 80) (args := #[.pointer (some ⟨B, 0, none⟩), .bool true]) (by simp) (by simp [go_sem]) ?_
  refine (store_deferred ⟨B, 0, none⟩ (.int .u32 0) .returning _ g0 z0).mono ?_
  rintro e u' w'' ⟨rfl, rfl, rfl⟩
  refine leaves_cons (f := 79) (args := #[.pointer (some ⟨B, 1, none⟩)]) (by simp [settle]) (by simp [go_sem]) ?_
  refine (unlock_deferred ⟨B, 1, none⟩ _ _ g1 z1).mono ?_
  rintro e u' w'' ⟨rfl, rfl, rfl⟩
  simp [Leaves, settle, results, Tryz.results71]
  exact ⟨unhide HS4, unhide HB4⟩

set_option maxRecDepth 100000 in
set_option maxHeartbeats 1600000 in
theorem do_first (B : Nat) (w : World) (h : Holds w B (tab (.int .u32 0) (.int .i32 0) 0)) :
    Calls Tryz.prog 67 #[.pointer (some ⟨B, 0, none⟩), fillF B] w fun e w' => e = .returned (.tuple #[]) ∧ Holds w' B (tab (.int .u32 1) (.int .i32 0) 16) ∧ Below B w w' := by
  have hl := run_call_load (P := Tryz.prog) Tryz.func77 (by kernel_rfl) (by kernel_rfl) (by kernel_rfl) .u32 (by kernel_rfl) (w := w) (a := ⟨B, 0, none⟩) (x := 0) (by rw [h.cell, tab_at0])
  have hnot : ∀ (x : Bool) (w : World), (Op.unary .not (.bool x)).run Tryz.prog w = .ok (.bool (!x)) w := fun _ _ => rfl
  have HH := hide h
  clear h
  go_enter Tryz.func67, Tryz.ntmps67
  go_wp2_with (first | (go_at_call 71; refine (slow_any B _ (unhide HH)).mono ?_; rintro e w2 ⟨rfl, hs2, hb2⟩) | (go_at_call 70; go_in))
  go_end0
  exact ⟨rfl, hs2, hb2⟩

set_option maxHeartbeats 400000 in
theorem do_done (B : Nat) (fv : Value) (w : World) (h : Holds w B (tab (.int .u32 1) (.int .i32 0) 16)) :
    Calls Tryz.prog 67 #[.pointer (some ⟨B, 0, none⟩), fv] w fun e w' => e = .returned (.tuple #[]) ∧ Holds w' B (tab (.int .u32 1) (.int .i32 0) 16) ∧ Below B w w' := by
  have hl := run_call_load (P := Tryz.prog) Tryz.func77 (by kernel_rfl) (by kernel_rfl) (by kernel_rfl) .u32 (by kernel_rfl) (w := w) (a := ⟨B, 0, none⟩) (x := 1) (by rw [h.cell, tab_at0])
  have hnot : ∀ (x : Bool) (w : World), (Op.unary .not (.bool x)).run Tryz.prog w = .ok (.bool (!x)) w := fun _ _ => rfl
  have HH := hide h
  clear h
  go_enter Tryz.func67, Tryz.ntmps67
  go_wp2
  go_end0
  exact ⟨rfl, unhide HH, Below.refl _ _⟩

/-- the table stands as at the beginning, or is made -/
def Tabled (w : World) (B : Nat) : Prop := Holds w B (tab (.int .u32 0) (.int .i32 0) 0) ∨ Holds w B (tab (.int .u32 1) (.int .i32 0) 16)
theorem do_any (B : Nat) (w : World) (h : Tabled w B) :
    Calls Tryz.prog 67 #[.pointer (some ⟨B, 0, none⟩), fillF B] w fun e w' => e = .returned (.tuple #[]) ∧ Holds w' B (tab (.int .u32 1) (.int .i32 0) 16) ∧ Below B w w' := by
  rcases h with h | h
  · exact do_first B w h
  · exact do_done B _ w h
end Go.Proofs.YtobpjegfgegkcaaGreatDoor
