/-
  The program's reader of bytes: done, fail, a byte, a number, a text; walks over the dump.
-/
import Derived.Test.YtobpjegfgegkcaaGreatDoorPackA
import Derived.Test.YtobpjegfgegkcaaGreatDoorGetText
import Derived.Test.YtobpjegfgegkcaaGreatDoorSumR
import Derived.Laws.Pointers
import Derived.Deep.QuietTactic
import Derived.Deep.RegionHeld3
import Derived.Deep.RegionWith
namespace Go.Proofs.YtobpjegfgegkcaaGreatDoor
open Go.RowKit
set_option linter.unusedVariables false
/-- block g is a reader that stands at 'at'; its table of sums stands as at the beginning, or is made -/
def Rd (w : World) (g : Nat) (s : ByteArray) (at' bg : Int) : Prop := TabledR (.string s, .int .i64 at', .int .i64 bg) w g
theorem tabR_zero (a b c : Value) : tabR (a, b, c) (.int .u32 0) (.int .i32 0) 0 = #[a, b, c, .int .u32 0, .int .i32 0, .int .u32 0, .int .u32 0, .int .u32 0, .int .u32 0, .int .u32 0, .int .u32 0, .int .u32 0, .int .u32 0, .int .u32 0, .int .u32 0, .int .u32 0, .int .u32 0, .int .u32 0, .int .u32 0, .int .u32 0, .int .u32 0, .int .u32 0] := by simp [tabR, tabLR, List.range, List.range.loop]
theorem Rd.new (w : World) (s : ByteArray) : Rd (w.alloc (.cells #[.string s, .int .i64 0, .int .i64 0, .int .u32 0, .int .i32 0, .int .u32 0, .int .u32 0, .int .u32 0, .int .u32 0, .int .u32 0, .int .u32 0, .int .u32 0, .int .u32 0, .int .u32 0, .int .u32 0, .int .u32 0, .int .u32 0, .int .u32 0, .int .u32 0, .int .u32 0, .int .u32 0, .int .u32 0] 62)) w.heap.size s 0 0 := by
  refine .inl ?_
  unfold HoldsR
  rw [tabR_zero]
  exact blk_new w _ _
theorem Rd.at {w : World} {g : Nat} {s : ByteArray} {i bg : Int} (h : Rd w g s i bg) (j : Nat) : w.cell? ⟨g, j, none⟩ = if j = 0 then some (.string s) else if j = 1 then some (.int .i64 i) else if j = 2 then some (.int .i64 bg) else w.cell? ⟨g, j, none⟩ := by
  rcases h with h | h
  all_goals
    match j with
    | 0 => rw [h.cell]; simp [tabR, tabLR]
    | 1 => rw [h.cell]; simp [tabR, tabLR]
    | 2 => rw [h.cell]; simp [tabR, tabLR]
    | n + 3 => simp
theorem Rd.f {w : World} {g : Nat} {s : ByteArray} {i bg : Int} (h : Rd w g s i bg) (j : Nat) : w.frozen? ⟨g, j, none⟩ = false := by
  rcases h with h | h <;> exact h.frozen j
theorem Rd.lt {w : World} {g : Nat} {s : ByteArray} {i bg : Int} (h : Rd w g s i bg) : g < w.heap.size := by
  rcases h with h | h <;> exact h.lt
theorem Rd.move {w w' : World} {g : Nat} {s : ByteArray} {i bg : Int} (h : Rd w g s i bg) (e : w'.heap[g]? = w.heap[g]?) : Rd w' g s i bg := by
  rcases h with h | h
  · exact .inl (e.trans h)
  · exact .inr (e.trans h)
theorem Rd.below {w w' : World} {g : Nat} {s : ByteArray} {i bg : Int} (h : Rd w g s i bg) (hb : Below w.heap.size w w') : Rd w' g s i bg := h.move (hb.block g h.lt)
theorem Rd.al {w : World} {g : Nat} {s : ByteArray} {i bg : Int} (h : Rd w g s i bg) (o : Obj) : Rd (w.alloc o) g s i bg := h.below (below_al (Below.refl _ w) o)
theorem Rd.other {w : World} {g : Nat} {s : ByteArray} {i bg : Int} (h : Rd w g s i bg) (k j : Nat) (v : Value) (hn : g ≠ k) : Rd (w.setCell ⟨k, j, none⟩ v) g s i bg := h.move (heap_setCell_other w ⟨k, j, none⟩ g v hn)
abbrev perr (bg : Int) : PanicEntry := { v := .iface 43 (.agg #[.int .i64 bg]), recovered := false }
abbrev rdp (g : Nat) : Value := .pointer (some ⟨g, 0, none⟩)

set_option maxRecDepth 100000 in
set_option maxHeartbeats 1000000 in
theorem done_any (g : Nat) (s : ByteArray) (i bg : Int) (w : World) (h : Rd w g s i bg) (hs : s.size ≤ 1048576) :
    Calls Tryz.prog 23 #[rdp g] w fun e w' => e = .returned (.bool (decide ((s.size : Int) ≤ i))) ∧ Below w.heap.size w w' := by
  have k0 := h.at 0
  have k1 := h.at 1
  have k2 := h.at 2
  simp at k0 k1 k2
  clear h
  go_enter Tryz.func23, Tryz.ntmps23
  go_wp2_with fail
  go_quiet (fail)
  go_wp2
  go_ret
  exact ⟨rfl, below_drewN (Below.refl _ _) _⟩

set_option maxRecDepth 100000 in
set_option maxHeartbeats 1000000 in
theorem fail_any (g : Nat) (s : ByteArray) (i bg : Int) (w : World) (h : Rd w g s i bg) :
    Calls Tryz.prog 34 #[rdp g] w fun e w' => e = .panicked [perr bg] ∧ w = w' := by
  have k0 := h.at 0
  have k1 := h.at 1
  have k2 := h.at 2
  simp at k0 k1 k2
  clear h
  go_enter Tryz.func34, Tryz.ntmps34
  go_wp2
  exact ⟨rfl, rfl, rfl⟩

theorem Rd.to {w : World} {g : Nat} {s : ByteArray} {i bg : Int} (h : Rd w g s i bg) (j : Int) : Rd (w.setCell ⟨g, 1, none⟩ (.int .i64 j)) g s j bg := by
  have e : ∀ d m k, (tabR (.string s, .int .i64 i, .int .i64 bg) d m k).setIfInBounds 1 (.int .i64 j) = tabR (.string s, .int .i64 j, .int .i64 bg) d m k := fun d m k => by simp [tabR, tabLR]
  rcases h with h | h
  · have := h.set 1 (.int .i64 j); rw [e] at this; exact .inl this
  · have := h.set 1 (.int .i64 j); rw [e] at this; exact .inr this
theorem Rd.begin {w : World} {g : Nat} {s : ByteArray} {i bg : Int} (h : Rd w g s i bg) (j : Int) : Rd (w.setCell ⟨g, 2, none⟩ (.int .i64 j)) g s i j := by
  have e : ∀ d m k, (tabR (.string s, .int .i64 i, .int .i64 bg) d m k).setIfInBounds 2 (.int .i64 j) = tabR (.string s, .int .i64 i, .int .i64 j) d m k := fun d m k => by simp [tabR, tabLR]
  rcases h with h | h
  · have := h.set 2 (.int .i64 j); rw [e] at this; exact .inl this
  · have := h.set 2 (.int .i64 j); rw [e] at this; exact .inr this
theorem gby_below {w w' : World} {r : Option Nat} (hb : Below w.heap.size w w') : w.grownBy w' r := grownBy_below (grownBy_refl w r) hb
/-- what a call of the reader leaves: a value, and it stands behind it; or it panics -/
def Reads (w : World) (g : Nat) (s : ByteArray) (bg : Int) (x : Option (Value × Int)) (e : Ending) (w' : World) : Prop :=
  w.grownBy w' (some g) ∧ match x with
    | some (v, j) => e = .returned v ∧ Rd w' g s j bg
    | none => e = .panicked [perr bg] ∧ ∃ j, Rd w' g s j bg

set_option maxRecDepth 100000 in
set_option maxHeartbeats 1000000 in
theorem nextByte_any (g : Nat) (s : ByteArray) (i : Nat) (bg : Int) (w : World) (h : Rd w g s i bg) (hs : s.size ≤ 1048576) (hi : i ≤ s.size) :
    Calls Tryz.prog 52 #[rdp g] w (Reads w g s bg (if hj : i < s.size then some (.int .u8 (s[i].toNat : Int), (i : Int) + 1) else none)) := by
  have CD := hide (fun wx (hb : Below w.heap.size w wx) => done_any g s i bg wx (h.below hb) hs)
  have CF := hide (fun wx (hb : Below w.heap.size w wx) => fail_any g s i bg wx (h.below hb))
  have HR := hide h
  clear h
  by_cases hj : i < s.size
  · rw [dif_pos hj]
    have hd : decide ((s.size : Int) ≤ (i : Int)) = false := by simp; omega
    rw [hd] at CD
    go_enter Tryz.func52, Tryz.ntmps52
    go_wp2_with fail
    refine (unhide CD _ (Below.refl _ _)).mono ?_
    rintro e w1 ⟨rfl, hb⟩
    have HB := hide hb
    have k0 := ((unhide HR).below hb).at 0
    have k1 := ((unhide HR).below hb).at 1
    have k2 := ((unhide HR).below hb).f 1
    simp at k0 k1
    clear hb hd
    have hlt : (i : Int) < (s.size : Int) := by omega
    go_wp2_with fail
    go_quiet (fail)
    go_wp2
    go_ret
    exact ⟨grownBy_set (grownBy_drewN (gby_below (unhide HB)) _) _ _, rfl, Rd.to (Rd.below (Rd.below (unhide HR) (unhide HB)) (below_drewN (Below.refl _ _) _)) _⟩
  · rw [dif_neg hj]
    have hd : decide ((s.size : Int) ≤ (i : Int)) = true := by simp; omega
    rw [hd] at CD
    go_enter Tryz.func52, Tryz.ntmps52
    go_wp2_with fail
    refine (unhide CD _ (Below.refl _ _)).mono ?_
    rintro e w1 ⟨rfl, hb⟩
    have HB := hide hb
    clear hb hd
    go_wp2_with fail
    refine (unhide CF _ (unhide HB)).mono ?_
    rintro e w2 ⟨rfl, rfl⟩
    go_wp2
    exact ⟨rfl, gby_below (unhide HB), rfl, _, (unhide HR).below (unhide HB)⟩

set_option maxRecDepth 100000 in
set_option maxHeartbeats 1000000 in
theorem goOn_any (g : Nat) (s : ByteArray) (i bg j : Int) (w : World) (h : Rd w g s i bg) :
    Calls Tryz.prog 62 #[rdp g, .int .i64 j] w (Reads w g s bg (if j < 0 then none else some (.tuple #[], j))) := by
  have CF := hide (fun wx (hb : Below w.heap.size w wx) => fail_any g s i bg wx (h.below hb))
  have HR := hide h
  have k1 := h.at 1
  have k2 := h.f 1
  simp at k1
  clear h
  by_cases hj : j < 0
  · rw [if_pos hj]
    go_enter Tryz.func62, Tryz.ntmps62
    go_wp2_with fail
    refine (unhide CF _ (Below.refl _ _)).mono ?_
    rintro e w2 ⟨rfl, rfl⟩
    go_wp2
    exact ⟨rfl, grownBy_refl _ _, rfl, _, unhide HR⟩
  · rw [if_neg hj]
    go_enter Tryz.func62, Tryz.ntmps62
    go_wp2
    go_end0
    exact ⟨grownBy_set (grownBy_refl _ _) _ _, rfl, (unhide HR).to _⟩
end Go.Proofs.YtobpjegfgegkcaaGreatDoor
