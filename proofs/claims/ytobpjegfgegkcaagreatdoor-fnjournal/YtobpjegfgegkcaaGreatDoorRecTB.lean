/-
  The text of a record, by both sides; walks over the dump.
-/
import Derived.Test.YtobpjegfgegkcaaGreatDoorPackB
import Derived.Test.YtobpjegfgegkcaaGreatDoorDecI
import Derived.Test.YtobpjegfgegkcaaGreatDoorTab
import Derived.Lib.ItoaLen
import Derived.Deep.RegionHeld3
namespace Go.Proofs.YtobpjegfgegkcaaGreatDoor
open Go.RowKit
set_option linter.unusedVariables false
set_option linter.unusedSimpArgs false
def recText (r : Rc) : ByteArray :=
  if recOk r = true then
    if r.kind = 0 then (⟨#[97, 112, 112, 32]⟩ : ByteArray) ++ bs (Lib.itoa r.app) ++ (⟨#[32]⟩ : ByteArray) ++ bs r.queue
    else if r.kind = 1 then (⟨#[100, 111, 110, 101, 32]⟩ : ByteArray) ++ bs (Lib.itoa r.app)
    else ⟨#[101, 112, 111, 99, 104]⟩
  else ⟨#[]⟩
/-- the record's own block stands, and nothing below has turned -/
def RBx (w : World) (r : Rc) (wx : World) : Prop := Blk wx w.heap.size #[.int .i64 r.kind, .int .i64 r.app, .string (bs r.queue)] 25 ∧ Below w.heap.size w wx
theorem RBx.call {w w1 w2 : World} {r : Rc} (h : RBx w r w1) (hb : Below w1.heap.size w1 w2) : RBx w r w2 := ⟨h.1.below hb, below_on h.2 hb⟩
theorem RBx.drew {w w1 : World} {r : Rc} (h : RBx w r w1) : RBx w r w1.drew := h.call (Below.refl _ _).drew
theorem RBx.new (w : World) (r : Rc) : RBx w r (w.alloc (.cells #[.int .i64 r.kind, .int .i64 r.app, .string (bs r.queue)] 25)) := ⟨blk_new w _ _, below_al (Below.refl _ w) _⟩
theorem RBx.read (w : World) (r : Rc) : ∀ wx, RBx w r wx → wx.cell? ⟨w.heap.size, 1, none⟩ = some (.int .i64 r.app) ∧ wx.cell? ⟨w.heap.size, 2, none⟩ = some (.string (bs r.queue)) := fun wx h => ⟨by simpa using h.1.at 1, by simpa using h.1.at 2⟩

set_option maxRecDepth 100000 in
set_option maxHeartbeats 400000 in
theorem specRecText_any (r : Rc) (w : World) (hq : r.queue.length ≤ 1048576) :
    Calls Tryz.prog 16 #[rcv r] w fun e w' => e = .returned (.string (recText r)) ∧ Below w.heap.size w w' := by
  have CO := hide (fun wx => specRecOk_any r wx hq)
  have A0 := hide (RBx.new w r)
  have R := RBx.read w r
  by_cases ho : recOk r = true
  case neg =>
    rw [Bool.not_eq_true] at ho
    have HT : recText r = ⟨#[]⟩ := by unfold recText; rw [ho]; simp
    rw [HT]
    rw [ho] at CO
    obtain ⟨k, a, q⟩ := r
    clear HT ho R
    go_enter Tryz.func16, Tryz.ntmps16
    go_wp2_with fail
    refine (unhide CO _).mono ?_
    rintro e w1 ⟨rfl, hb⟩
    have A1 := hide (RBx.call (unhide A0) hb)
    clear hb
    go_wp2
    go_ret
    exact ⟨rfl, (unhide A1).2⟩
  obtain ⟨b0, b1, b2, b3, b4⟩ := recOk_bd ho
  have HT : recText r = if r.kind = 0 then (⟨#[97, 112, 112, 32]⟩ : ByteArray) ++ bs (Lib.itoa r.app) ++ (⟨#[32]⟩ : ByteArray) ++ bs r.queue
    else if r.kind = 1 then (⟨#[100, 111, 110, 101, 32]⟩ : ByteArray) ++ bs (Lib.itoa r.app)
    else ⟨#[101, 112, 111, 99, 104]⟩ := by unfold recText; rw [if_pos ho]
  rw [HT]
  rw [ho] at CO
  clear HT ho
  have CD := hide (fun wx (_ : True) => specDecText_any r.app wx (by omega) (by omega))
  have l1 : (bs (Lib.itoa r.app)).size ≤ 21 := by rw [bs_size]; exact Lib.itoa_length_le r.app (by omega) (by omega)
  have l2 : (bs r.queue).size ≤ 10 := by rw [bs_size]; exact b4
  obtain ⟨k, a, q⟩ := r
  simp only at b0 b1 b2 b3 b4 l1 l2 CD ⊢
  obtain ⟨s1, hs1⟩ : ∃ s, bs (Lib.itoa a) = s := ⟨_, rfl⟩
  rw [hs1] at l1 CD ⊢
  have m1 : ¬ 9223372036854775807 < 4 + s1.size := by omega
  have m2 : ¬ 9223372036854775807 < 4 + s1.size + 1 := by omega
  have m3 : ¬ 9223372036854775807 < 4 + s1.size + 1 + (bs q).size := by omega
  have m4 : ¬ 9223372036854775807 < 5 + s1.size := by omega
  simp only at R
  clear hs1
  by_cases h0 : k = 0
  · subst h0
    simp only [if_true]
    go_enter Tryz.func16, Tryz.ntmps16
    go_wp2_with fail
    refine (unhide CO _).mono ?_
    rintro e w1 ⟨rfl, hb⟩
    have A1 := hide (RBx.call (unhide A0) hb)
    have k0 := (unhide A1).1.at 0
    simp at k0
    clear hb A0
    go_wp2_with fail
    go_region_held3 (fun wx => RBx w ⟨0, a, q⟩ wx)
      (first | (with_reducible assumption) | exact (unhide A1).drew | exact RBx.call (by assumption) (by assumption))
      (first
      | (go_at_call 42; refine (unhide CD _ trivial).mono ?_; rintro e wt ⟨rfl, rfl⟩; have SA := RBx.call (w := w) (r := ⟨0, a, q⟩) (by assumption) (Below.refl _ _)))
    have HB := hide SA.2
    clear SA
    go_wp2
    go_ret
    exact ⟨rfl, unhide HB⟩
  by_cases h1 : k = 1
  · subst h1
    simp only [show ¬ ((1 : Int) = 0) by decide, if_false, if_true]
    go_enter Tryz.func16, Tryz.ntmps16
    go_wp2_with fail
    refine (unhide CO _).mono ?_
    rintro e w1 ⟨rfl, hb⟩
    have A1 := hide (RBx.call (unhide A0) hb)
    have k0 := (unhide A1).1.at 0
    have k1 := (unhide A1).1.at 1
    simp at k0 k1
    clear hb A0 R
    go_wp2_with fail
    refine (unhide CD _ trivial).mono ?_
    rintro e wt ⟨rfl, rfl⟩
    have A2 := hide (RBx.call (unhide A1) (Below.refl _ _))
    go_wp2
    go_ret
    exact ⟨rfl, (unhide A2).2⟩
  · rw [if_neg h0, if_neg h1]
    go_enter Tryz.func16, Tryz.ntmps16
    go_wp2_with fail
    refine (unhide CO _).mono ?_
    rintro e w1 ⟨rfl, hb⟩
    have A1 := hide (RBx.call (unhide A0) hb)
    have k0 := (unhide A1).1.at 0
    simp at k0
    clear hb A0 R
    go_wp2
    go_ret
    exact ⟨rfl, (unhide A1).2⟩

set_option maxRecDepth 100000 in
set_option maxHeartbeats 400000 in
theorem implRecText_any (r : Rc) (w : World) (hq : r.queue.length ≤ 1048576) (htab : Lib.TabIs Tryz.prog w "internal/strconv.uint64pow10" .u64 Lib.pow10Tab) :
    Calls Tryz.prog 15 #[rcv r] w fun e w' => e = .returned (.string (recText r)) ∧ Below w.heap.size w w' := by
  have CO := hide (fun wx => implRecOk_any r wx hq)
  have A0 := hide (RBx.new w r)
  have R := RBx.read w r
  by_cases ho : recOk r = true
  case neg =>
    rw [Bool.not_eq_true] at ho
    have HT : recText r = ⟨#[]⟩ := by unfold recText; rw [ho]; simp
    rw [HT]
    rw [ho] at CO
    obtain ⟨k, a, q⟩ := r
    clear HT ho R
    go_enter Tryz.func15, Tryz.ntmps15
    go_wp2_with fail
    refine (unhide CO _).mono ?_
    rintro e w1 ⟨rfl, hb⟩
    have A1 := hide (RBx.call (unhide A0) hb)
    clear hb
    go_wp2
    go_ret
    exact ⟨rfl, (unhide A1).2⟩
  obtain ⟨b0, b1, b2, b3, b4⟩ := recOk_bd ho
  have HT : recText r = if r.kind = 0 then (⟨#[97, 112, 112, 32]⟩ : ByteArray) ++ bs (Lib.itoa r.app) ++ (⟨#[32]⟩ : ByteArray) ++ bs r.queue
    else if r.kind = 1 then (⟨#[100, 111, 110, 101, 32]⟩ : ByteArray) ++ bs (Lib.itoa r.app)
    else ⟨#[101, 112, 111, 99, 104]⟩ := by unfold recText; rw [if_pos ho]
  rw [HT]
  rw [ho] at CO
  clear HT ho
  have CD := hide (fun wx (hb : Below w.heap.size w wx) => implDecText_any r.app wx (by omega) (by omega) (tab_on htab hb))
  have l1 : (bs (Lib.itoa r.app)).size ≤ 21 := by rw [bs_size]; exact Lib.itoa_length_le r.app (by omega) (by omega)
  have l2 : (bs r.queue).size ≤ 10 := by rw [bs_size]; exact b4
  obtain ⟨k, a, q⟩ := r
  simp only at b0 b1 b2 b3 b4 l1 l2 CD ⊢
  obtain ⟨s1, hs1⟩ : ∃ s, bs (Lib.itoa a) = s := ⟨_, rfl⟩
  rw [hs1] at l1 CD ⊢
  have m1 : ¬ 9223372036854775807 < 4 + s1.size := by omega
  have m2 : ¬ 9223372036854775807 < 4 + s1.size + 1 := by omega
  have m3 : ¬ 9223372036854775807 < 4 + s1.size + 1 + (bs q).size := by omega
  have m4 : ¬ 9223372036854775807 < 5 + s1.size := by omega
  simp only at R
  clear hs1
  by_cases h0 : k = 0
  · subst h0
    simp only [if_true]
    go_enter Tryz.func15, Tryz.ntmps15
    go_wp2_with fail
    refine (unhide CO _).mono ?_
    rintro e w1 ⟨rfl, hb⟩
    have A1 := hide (RBx.call (unhide A0) hb)
    have k0 := (unhide A1).1.at 0
    simp at k0
    clear hb A0
    go_wp2_with fail
    go_region_held3 (fun wx => RBx w ⟨0, a, q⟩ wx)
      (first | (with_reducible assumption) | exact (unhide A1).drew | exact RBx.call (by assumption) (by assumption))
      (first
      | (go_at_call 41; refine (unhide CD _ (RBx.call (w := w) (r := ⟨0, a, q⟩) (by assumption) (Below.refl _ _)).2).mono ?_; rintro e wt ⟨rfl, hb⟩; have SA := RBx.call (w := w) (r := ⟨0, a, q⟩) (by assumption) hb))
    have HB := hide SA.2
    clear SA
    go_wp2
    go_ret
    exact ⟨rfl, unhide HB⟩
  by_cases h1 : k = 1
  · subst h1
    simp only [show ¬ ((1 : Int) = 0) by decide, if_false, if_true]
    go_enter Tryz.func15, Tryz.ntmps15
    go_wp2_with fail
    refine (unhide CO _).mono ?_
    rintro e w1 ⟨rfl, hb⟩
    have A1 := hide (RBx.call (unhide A0) hb)
    have k0 := (unhide A1).1.at 0
    have k1 := (unhide A1).1.at 1
    simp at k0 k1
    clear hb A0 R
    go_wp2_with fail
    refine (unhide CD _ (unhide A1).2).mono ?_
    rintro e wt ⟨rfl, hb⟩
    have A2 := hide (RBx.call (unhide A1) hb)
    clear hb
    go_wp2
    go_ret
    exact ⟨rfl, (unhide A2).2⟩
  · rw [if_neg h0, if_neg h1]
    go_enter Tryz.func15, Tryz.ntmps15
    go_wp2_with fail
    refine (unhide CO _).mono ?_
    rintro e w1 ⟨rfl, hb⟩
    have A1 := hide (RBx.call (unhide A0) hb)
    have k0 := (unhide A1).1.at 0
    simp at k0
    clear hb A0 R
    go_wp2
    go_ret
    exact ⟨rfl, (unhide A1).2⟩

end Go.Proofs.YtobpjegfgegkcaaGreatDoor
