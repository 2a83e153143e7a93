/-
  The program's table of sums, made once by sync.Once in one goroutine: what each step of it does to the table's block; walks over the dump.
-/
import Derived.Test.YtobpjegfgegkcaaGreatDoorSum
import Derived.Defers
import Derived.Laws.LoneSync
import Derived.Laws.Pointers
import Derived.RegionTactic
import Derived.RegionCalls
import Derived.ChangeAlike
import Derived.Deep.RegionWith
namespace Go.Proofs.YtobpjegfgegkcaaGreatDoor
open Go.RowKit
set_option linter.unusedVariables false
/-- the table's cells: the once's word, the lock's state and its word, and the sixteen sums of which the first k are made -/
def tabL (d m : Value) (k : Nat) : List Value := [d, m, .int .u32 0] ++ (List.range 16).map (fun i => Value.int .u32 (if i < k then (hN 4 i : Int) else 0))
def tab (d m : Value) (k : Nat) : Array Value := (tabL d m k).toArray
theorem tab_size (d m : Value) (k : Nat) : (tab d m k).size = 19 := by simp [tab, tabL]
def Holds (w : World) (B : Nat) (C : Array Value) : Prop := w.heap[B]? = some (.cells C 60 (0, 0))
theorem Holds.cell {w : World} {B : Nat} {C : Array Value} (h : Holds w B C) (j : Nat) : w.cell? ⟨B, j, none⟩ = C[j]? := by
  unfold Holds at h; simp [World.cell?, h]
theorem Holds.frozen {w : World} {B : Nat} {C : Array Value} (h : Holds w B C) (j : Nat) : w.frozen? ⟨B, j, none⟩ = false := by
  unfold Holds at h; simp [World.frozen?, h]
theorem Holds.set {w : World} {B : Nat} {C : Array Value} (h : Holds w B C) (j : Nat) (v : Value) : Holds (w.setCell ⟨B, j, none⟩ v) B (C.setIfInBounds j v) := heap_setCell_same w B j C _ v h
theorem Holds.drew {w : World} {B : Nat} {C : Array Value} (h : Holds w B C) : Holds w.drew B C := h
theorem Holds.lt {w : World} {B : Nat} {C : Array Value} (h : Holds w B C) : B < w.heap.size := lt_of_block h
theorem tab_set0 (d d' m : Value) (k : Nat) : (tab d m k).setIfInBounds 0 d' = tab d' m k := by simp [tab, tabL]
theorem tab_set1 (d m m' : Value) (k : Nat) : (tab d m k).setIfInBounds 1 m' = tab d m' k := by simp [tab, tabL]
theorem tab_at0 (d m : Value) (k : Nat) : (tab d m k)[0]? = some d := by simp [tab, tabL]
theorem tab_at1 (d m : Value) (k : Nat) : (tab d m k)[1]? = some m := by simp [tab, tabL]
theorem tab_at (d m : Value) (k i : Nat) (h : i < 16) : (tab d m k)[3 + i]? = some (.int .u32 (if i < k then (hN 4 i : Int) else 0)) := by
  simp only [tab, tabL, List.getElem?_toArray]
  rw [List.getElem?_append_right (by simp)]
  simp [h]
theorem tab_set (d m : Value) (k : Nat) (h : k < 16) : (tab d m k).setIfInBounds (3 + k) (.int .u32 (hN 4 k : Int)) = tab d m (k + 1) := by
  apply Array.ext_getElem?
  intro i
  rw [Array.getElem?_setIfInBounds]
  by_cases hi : 3 + k = i
  · rw [if_pos hi, if_pos (by rw [tab_size]; omega), ← hi, tab_at _ _ _ _ h, if_pos (by omega)]
  · rw [if_neg hi]
    by_cases h3 : i < 3
    · match i, h3 with
      | 0, _ => rw [tab_at0, tab_at0]
      | 1, _ => rw [tab_at1, tab_at1]
      | 2, _ => simp [tab, tabL]
    · obtain ⟨n, rfl⟩ : ∃ n, i = 3 + n := ⟨i - 3, by omega⟩
      by_cases hn : n < 16
      · rw [tab_at _ _ _ _ hn, tab_at _ _ _ _ hn]
        by_cases hk : n < k
        · rw [if_pos hk, if_pos (by omega)]
        · rw [if_neg hk, if_neg (by omega)]
      · rw [Array.getElem?_eq_none (by rw [tab_size]; omega), Array.getElem?_eq_none (by rw [tab_size]; omega)]

theorem disable (w : World) : (callFunc 92 #[]).run Tryz.prog w = .ok (.value (.tuple #[])) w := run_call_mark0 Tryz.func92 (by kernel_rfl) (by kernel_rfl) (by kernel_rfl) .disable (by kernel_rfl) w
theorem enable (w : World) : (callFunc 94 #[]).run Tryz.prog w = .ok (.value (.tuple #[])) w := run_call_mark0 Tryz.func94 (by kernel_rfl) (by kernel_rfl) (by kernel_rfl) .enable (by kernel_rfl) w
theorem acquire (a : Addr) (w : World) : (callFunc 95 #[.pointer (some a)]).run Tryz.prog w = .ok (.value (.tuple #[])) w := run_call_marked Tryz.func95 (by kernel_rfl) (by kernel_rfl) (by kernel_rfl) .acquire (by kernel_rfl) a w
theorem releaseMerge (a : Addr) (w : World) : (callFunc 97 #[.pointer (some a)]).run Tryz.prog w = .ok (.value (.tuple #[])) w := run_call_marked Tryz.func97 (by kernel_rfl) (by kernel_rfl) (by kernel_rfl) .releaseMerge (by kernel_rfl) a w

set_option maxRecDepth 100000 in
set_option maxHeartbeats 1000000 in
/-- atomic.Bool's Store of true, deferred: the cell holds 1. -/
theorem store_deferred (a : Addr) (x : Value) (u : FrameMode) (w : World) (hc : w.cell? a = some x) (hz : w.frozen? a = false) :
    CallsD Tryz.prog 80 #[.pointer (some a), .bool true] u w fun e u' w' => u' = u ∧ (e = .returned (.tuple #[]) ∧ w' = w.drew.setCell a (.int .u32 1)) := by
  have hc' : w.drew.cell? a = some x := by go_simp
  have hz' : w.drew.frozen? a = false := by go_simp
  have hst := run_call_store (P := Tryz.prog) Tryz.func88 (by kernel_rfl) (by kernel_rfl) (by kernel_rfl) (by kernel_rfl) (k := .u32) (y := 1) hc' hz'
  go_enter_d Tryz.func80, Tryz.ntmps80
  go_wp2
  go_region_calls
  all_goals (go_end0; exact ⟨rfl, rfl⟩)

set_option maxRecDepth 100000 in
set_option maxHeartbeats 1000000 in
/-- sync.Mutex's Unlock, deferred, the lock held and nobody waiting: the state is 0. -/
theorem unlock_deferred (a : Addr) (u : FrameMode) (w : World) (hc : w.cell? a = some (.int .i32 1)) (hz : w.frozen? a = false) :
    CallsD Tryz.prog 79 #[.pointer (some a)] u w fun e u' w' => u' = u ∧ (e = .returned (.tuple #[]) ∧ w' = w.setCell a (.int .i32 0)) := by
  have hd := disable
  have he := enable
  have hr := releaseMerge
  have hadd := run_call_add (P := Tryz.prog) Tryz.func98 (by kernel_rfl) (by kernel_rfl) (by kernel_rfl) .i32 (by kernel_rfl) (y := -1) (s := 0) hc hz (by simp [go_sem]; rfl)
  have hcv := run_convert_to_unsafe (P := Tryz.prog) (src := 120) (dst := 124) Tryz.underlying120 Tryz.underlying124 (by kernel_rfl) hc
  go_enter_d Tryz.func79, Tryz.ntmps79
  go_wp2
  go_end0
  go_wp2
  go_end0
  exact ⟨rfl, rfl⟩

set_option maxRecDepth 100000 in
set_option maxHeartbeats 1000000 in
/-- sync.Mutex's Lock, the lock free: the state is 1. -/
theorem lock_free (a : Addr) (w : World) (hc : w.cell? a = some (.int .i32 0)) (hz : w.frozen? a = false) :
    Calls Tryz.prog 78 #[.pointer (some a)] w fun e w' => e = .returned (.tuple #[]) ∧ w' = w.setCell a (.int .i32 1) := by
  have hd := disable
  have he := enable
  have ha := acquire
  have hcas := run_call_cas_hit (P := Tryz.prog) Tryz.func93 (by kernel_rfl) (by kernel_rfl) (by kernel_rfl) .i32 (by kernel_rfl) (y := 1) hc hz
  have hc' : (w.setCell a (.int .i32 1)).cell? a = some (.int .i32 1) := World.cell?_setCell_same w a _ hc
  have hcv := run_convert_to_unsafe (P := Tryz.prog) (src := 120) (dst := 124) Tryz.underlying120 Tryz.underlying124 (by kernel_rfl) hc'
  go_enter Tryz.func78, Tryz.ntmps78
  go_wp2
  first | go_end0 | (simp only [Exit.inBlock, Exit.then]; refine bodyPost_ret (results_none rfl _ _ _) rfl ?_) | refine bodyPost_ret (results_none rfl _ _ _) rfl ?_
  go_wp2
  go_end0
  exact ⟨rfl, rfl⟩
end Go.Proofs.YtobpjegfgegkcaaGreatDoor
