/-
  A queue's line: what the program's method line answers; a walk over the dump.
-/
import Derived.Test.YtebaejokhpdbkaaGreatDoorPackC
import Derived.Test.YtebaejokhpdbkaaGreatDoorQBox
import Derived.Test.YtebaejokhpdbkaaGreatDoorTab
import Derived.Deep.RegionHeld3
namespace Go.Proofs.YtebaejokhpdbkaaGreatDoor
open Go.RowKit
set_option linter.unusedVariables false

set_option maxRecDepth 100000 in
set_option maxHeartbeats 4000000 in
theorem line_any (q : Q) (w : World) (hf : q.name.length ≤ 10 ∧ (par q).length ≤ 10 ∧ 0 ≤ q.due ∧ q.due ≤ 10000 ∧ 0 ≤ q.most ∧ q.most ≤ 10000) (htab : Lib.TabIs Tryz.prog w "internal/strconv.uint64pow10" .u64 Lib.pow10Tab) :
    Calls Tryz.prog 30 #[qv q] w fun e w' => e = .returned (.string (bs (lineL q))) ∧ Below w.heap.size w w' := by
  have A0 := hide (show QB w w.heap.size q _ from ⟨QBox.new w q, below_al (Below.refl _ w) (qobj q)⟩)
  have R := QB.read w w.heap.size q
  have HT := hide htab
  have hte := line_eq q
  have hl1 := itoa_len hf.2.2.1 hf.2.2.2.1
  have hl2 := itoa_len hf.2.2.2.2.1 hf.2.2.2.2.2
  have D1 := hide (fun wx (hb : Below w.heap.size w wx) => implDecText_any q.due wx (by omega) (by omega) (tab_on htab hb))
  have D2 := hide (fun wx (hb : Below w.heap.size w wx) => implDecText_any q.most wx (by omega) (by omega) (tab_on htab hb))
  have hpar : par q = if q.parent = [] then [45] else q.parent := rfl
  have hbe := bs_empty q.parent
  have z1 : (bs q.name).size ≤ 10 := by rw [bs_size]; omega
  have z2 : (bs (par q)).size ≤ 10 := by rw [bs_size]; omega
  have z3 : (bs (Lib.itoa q.due)).size ≤ 21 := by rw [bs_size]; omega
  have z4 : (bs (Lib.itoa q.most)).size ≤ 21 := by rw [bs_size]; omega
  have HP := hide hpar
  obtain ⟨t', ht'⟩ : ∃ t', bs (lineL q) = t' := ⟨_, rfl⟩
  rw [ht'] at hte ⊢
  have k1 := (unhide A0).1.c1
  obtain ⟨s1, e1⟩ : ∃ s, bs q.name = s := ⟨_, rfl⟩
  obtain ⟨s2, e2⟩ : ∃ s, bs (par q) = s := ⟨_, rfl⟩
  obtain ⟨s3, e3⟩ : ∃ s, bs (Lib.itoa q.due) = s := ⟨_, rfl⟩
  obtain ⟨s4, e4⟩ : ∃ s, bs (Lib.itoa q.most) = s := ⟨_, rfl⟩
  rw [e1, e2, e3, e4] at hte
  rw [e1] at z1
  rw [e2] at z2
  rw [e3] at z3 D1
  rw [e4] at z4 D2
  obtain ⟨d, ed⟩ : ∃ d, q.due = d := ⟨_, rfl⟩
  obtain ⟨m, em⟩ : ∃ m, q.most = m := ⟨_, rfl⟩
  rw [e1, ed, em] at R
  rw [ed] at D1
  rw [em] at D2
  have n2 : ¬ 9223372036854775807 < s1.size + 1 := by omega
  have n3 : ¬ 9223372036854775807 < s1.size + 1 + s2.size := by omega
  have n4 : ¬ 9223372036854775807 < s1.size + 1 + s2.size + 1 := by omega
  have n5 : ¬ 9223372036854775807 < s1.size + 1 + s2.size + 1 + s3.size := by omega
  have n6 : ¬ 9223372036854775807 < s1.size + 1 + s2.size + 1 + s3.size + 1 := by omega
  have n7 : ¬ 9223372036854775807 < s1.size + 1 + s2.size + 1 + s3.size + 1 + s4.size := by omega
  have n8 : ¬ 9223372036854775807 < s1.size + 1 + s2.size + 1 + s3.size + 1 + s4.size + 1 := by omega
  have HTE := hide hte
  have E2 := hide e2
  clear hte ht' hf hl1 hl2 hpar e1 e2 e3 e4 ed em htab
  by_cases hz : q.parent = []
  · rw [decide_eq_true hz] at hbe
    have e5 : s2 = ⟨#[45]⟩ := by rw [← unhide E2, unhide HP, if_pos hz]; rfl
    subst e5
    have m1 : ¬ 9223372036854775807 < s1.size + 1 + 1 := by omega
    have m2 : ¬ 9223372036854775807 < s1.size + 2 := by omega
    have m3 : ¬ 9223372036854775807 < s1.size + 1 + 1 + 1 := by omega
    have m4 : ¬ 9223372036854775807 < s1.size + 3 := by omega
    have m5 : ¬ 9223372036854775807 < s1.size + 1 + 1 + 1 + s3.size := by omega
    have m6 : ¬ 9223372036854775807 < s1.size + 3 + s3.size := by omega
    have m7 : ¬ 9223372036854775807 < s1.size + 1 + 1 + 1 + s3.size + 1 := by omega
    have m8 : ¬ 9223372036854775807 < s1.size + 3 + s3.size + 1 := by omega
    have m9 : ¬ 9223372036854775807 < s1.size + 1 + 1 + 1 + s3.size + 1 + s4.size := by omega
    have m10 : ¬ 9223372036854775807 < s1.size + 3 + s3.size + 1 + s4.size := by omega
    have m11 : ¬ 9223372036854775807 < s1.size + 1 + 1 + 1 + s3.size + 1 + s4.size + 1 := by omega
    have m12 : ¬ 9223372036854775807 < s1.size + 3 + s3.size + 1 + s4.size + 1 := by omega
    clear hz z2
    go_enter Tryz.func30, Tryz.ntmps30
    go_wp2_with fail
    go_region_held3 (fun wx => QB w w.heap.size q wx)
      (first | (with_reducible assumption) | exact (unhide A0).drew | exact QB.call (by assumption) (by assumption))
      (first
      | (go_at_call_of 58 d; refine (unhide D1 _ (QB.call (w0 := w) (g := w.heap.size) (q := q) (by assumption) (Below.refl _ _)).2).mono ?_; rintro e wt ⟨rfl, hb⟩; have SA := QB.call (w0 := w) (g := w.heap.size) (q := q) (by assumption) hb)
      | (go_at_call_of 58 m; refine (unhide D2 _ (QB.call (w0 := w) (g := w.heap.size) (q := q) (by assumption) (Below.refl _ _)).2).mono ?_; rintro e wt ⟨rfl, hb⟩; have SA := QB.call (w0 := w) (g := w.heap.size) (q := q) (by assumption) hb))
    all_goals
      have HB := hide SA.2
      clear R SA A0
      go_wp2
      go_ret
      exact ⟨by rw [unhide HTE]; rfl, unhide HB⟩
  · rw [decide_eq_false hz] at hbe
    have e5 : bs q.parent = s2 := by rw [← unhide E2, unhide HP, if_neg hz]
    rw [e5] at k1 hbe
    clear hz z2 e5
    go_enter Tryz.func30, Tryz.ntmps30
    go_wp2_with fail
    go_region_held3 (fun wx => QB w w.heap.size q wx)
      (first | (with_reducible assumption) | exact (unhide A0).drew | exact QB.call (by assumption) (by assumption))
      (first
      | (go_at_call_of 58 d; refine (unhide D1 _ (QB.call (w0 := w) (g := w.heap.size) (q := q) (by assumption) (Below.refl _ _)).2).mono ?_; rintro e wt ⟨rfl, hb⟩; have SA := QB.call (w0 := w) (g := w.heap.size) (q := q) (by assumption) hb)
      | (go_at_call_of 58 m; refine (unhide D2 _ (QB.call (w0 := w) (g := w.heap.size) (q := q) (by assumption) (Below.refl _ _)).2).mono ?_; rintro e wt ⟨rfl, hb⟩; have SA := QB.call (w0 := w) (g := w.heap.size) (q := q) (by assumption) hb))
    all_goals
      have HB := hide SA.2
      clear R SA A0
      go_wp2
      go_ret
      exact ⟨by rw [unhide HTE]; rfl, unhide HB⟩
end Go.Proofs.YtebaejokhpdbkaaGreatDoor
