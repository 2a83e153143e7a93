/-
  Amounts drawn: what the model's l02Res answers at a cursor; a walk over the dump.
-/
import Derived.Test.YtbapainfiepadaaDraw2
import Derived.Test.YtbapainfiepadaaResV
namespace Go.Proofs.Ytbapainfiepadaa
open Go.RowKit
set_option linter.unusedVariables false

theorem Var.grown {w w' : World} {t : TypeId} {q g : Nat} {x y : Int} (h : Var w t q x y) (hg : w.grownBy w' (some g)) (hn : q ≠ g) : Var w' t q x y := h.same (hg.block q h.lt (fun e => hn (Option.some.inj e)))
def I64 (x : Int) : Prop := -9223372036854775808 ≤ x ∧ x ≤ 9223372036854775807
set_option maxRecDepth 100000 in
set_option maxHeartbeats 1000000 in
theorem pickG_st {w0 : World} {B g : Nat} {ao : Option Addr} {len cap : Nat} (q L c : Nat) (w : World) (h : St w0 B g ao len cap w) (hq : Ints w q L) (hne : q ≠ g) (hL : 0 < L) (hL1 : L ≤ 1000) :
    Calls Try.prog 72 #[.pointer (some ⟨g, 0, none⟩), .slice (some ⟨q, 0, none⟩) L c] w fun e w' => ∃ x : Int, e = .returned (.int .i64 x) ∧ I64 x ∧ St w0 B g ao len cap w' ∧ w.grownBy w' (some g) := by
  have HS := hide h
  clear h
  go_enter Try.func72, Try.ntmps72
  go_wp2_with fail
  refine (below_st _ _ (unhide HS) (by omega) (by omega)).mono ?_
  rintro e w1 ⟨x, rfl, hx0, hx1, hs1, hg1⟩
  obtain ⟨X, rfl⟩ := Int.eq_ofNat_of_zero_le hx0
  obtain ⟨z, hz, hz0, hz1⟩ := hq.2 X (by omega)
  have hc : w1.cell? ⟨q, X, none⟩ = some (.int .i64 z) := (World.cell?_of_block (w := w) (a := ⟨q, X, none⟩) (hg1.block q hq.1 (fun e => hne (Option.some.inj e)))).trans hz
  have HS1 := hide (And.intro hs1 hg1)
  clear hs1 hg1 hz hq
  go_wp2
  go_ret
  exact ⟨z, rfl, ⟨hz0, hz1⟩, unhide HS1⟩

theorem St.gr {w0 w w' : World} {B g : Nat} {ao : Option Addr} {len cap : Nat} (h : St w0 B g ao len cap w) (hb : Below w.heap.size w w') : St w0 B g ao len cap w' ∧ w.grownBy w' (some g) := ⟨h.below hb, grownBy_below (grownBy_refl w _) hb⟩
/-- a store into a block that is not the cursor's, made behind w1 -/
theorem grown_set {w w1 : World} {g k j : Nat} {v : Value} (h : w.grownBy w1 (some g)) (hk : w.heap.size ≤ k) : w.grownBy (w1.setCell ⟨k, j, none⟩ v) (some g) :=
  ⟨h.os, h.tape, h.output, by simpa using h.size, fun i hi hn => by
    rw [heap_setCell_other w1 ⟨k, j, none⟩ i v (by have : i < k := Nat.lt_of_lt_of_le hi hk; exact Nat.ne_of_lt this)]
    exact h.block i hi hn⟩
theorem St.set {w0 w : World} {B g : Nat} {ao : Option Addr} {len cap : Nat} (h : St w0 B g ao len cap w) (k j : Nat) (v : Value) (hk : w0.heap.size ≤ k) (hB : B ≤ k) (hn : k ≠ g) : St w0 B g ao len cap (w.setCell ⟨k, j, none⟩ v) := by
  refine ⟨?_, ?_, grown_set h.2.2.1 hk, h.2.2.2⟩
  · obtain ⟨i, x, h1, h2⟩ := h.1
    exact ⟨i, x, by rw [heap_setCell_other w ⟨k, j, none⟩ g v (fun e => hn e.symm)]; exact h1, h2⟩
  · have hb : Below B w (w.setCell ⟨k, j, none⟩ v) := (Below.refl B w).setCell hB v
    exact h.2.1.below hb (Nat.le_refl _)
theorem i64_of {x : Int} (h0 : 0 ≤ x) (h1 : x < 1000) : I64 x := ⟨by omega, by omega⟩
/-- where the blocks of a call that draws lie -/
def Low (w0 : World) (B g : Nat) (w : World) : Prop := w0.heap.size ≤ w.heap.size ∧ B ≤ w.heap.size ∧ g < w.heap.size
theorem St.low {w0 w : World} {B g : Nat} {ao : Option Addr} {len cap : Nat} (h : St w0 B g ao len cap w) : Low w0 B g w := ⟨h.2.2.1.size, by have := h.1.lt; have := h.2.2.2; omega, h.1.lt⟩
theorem sg_set {w0 w wx : World} {B g : Nat} {ao : Option Addr} {len cap : Nat} (l : Low w0 B g w) (h : St w0 B g ao len cap wx ∧ w.grownBy wx (some g)) (k j : Nat) (v : Value) (hk : w.heap.size ≤ k) : St w0 B g ao len cap (wx.setCell ⟨k, j, none⟩ v) ∧ w.grownBy (wx.setCell ⟨k, j, none⟩ v) (some g) := by
  obtain ⟨l1, l2, l3⟩ := l
  exact ⟨h.1.set k j v (by omega) (by omega) (by omega), grown_set h.2 hk⟩
set_option maxRecDepth 100000 in
set_option maxHeartbeats 2000000 in
theorem l02Res_st {w0 : World} {B g : Nat} {ao : Option Addr} {len cap : Nat} (w : World) (h : St w0 B g ao len cap w) :
    Calls Try.prog 55 #[.pointer (some ⟨g, 0, none⟩)] w fun e w' => ∃ a b : Int, e = .returned (rv a b) ∧ I64 a ∧ I64 b ∧ St w0 B g ao len cap w' ∧ w.grownBy w' (some g) := by
  have hgl := h.1.lt
  have LO := hide h.low
  have HS := hide (St.gr h (below_al (Below.refl _ w) (.cells #[.int .i64 0, .int .i64 0] 26)))
  have V0 := hide (var_new w 26 0 0)
  clear h
  go_enter Try.func55, Try.ntmps55
  go_wp2_with fail
  refine (below_st 20 _ (unhide HS).1 (by decide) (by decide)).mono ?_
  rintro e w1 ⟨x, rfl, hx0, hx1, hs, hg⟩
  have HS1 := hide (And.intro hs (grownBy_trans (unhide HS).2 hg))
  have V01 := hide ((unhide V0).grown hg (by omega))
  clear hs hg HS V0
  go_wp2_with fail
  refine (below_st 10 _ (unhide HS1).1 (by decide) (by decide)).mono ?_
  rintro e w2 ⟨y, rfl, hy0, hy1, hs, hg⟩
  have HS2 := hide (And.intro (hs.alloc (.cells #[.int .i64 x, .int .i64 y] 26)) (grownBy_below (grownBy_trans (unhide HS1).2 hg) (below_al (Below.refl _ _) (.cells #[.int .i64 x, .int .i64 y] 26))))
  have V02 := hide (((unhide V01).grown hg (by omega)).al (.cells #[.int .i64 x, .int .i64 y] 26))
  have V12 := hide (var_new w2 26 x y)
  have hgl2 : g < w2.heap.size := hs.1.lt
  have hlt2 : w.heap.size < w2.heap.size := ((unhide V01).grown hg (by omega)).lt
  have X := hide (And.intro (i64_of hx0 (by omega)) (i64_of hy0 (by omega)))
  clear hs hg HS1 V01
  go_wp2_with fail
  refine (below_st 16 _ (unhide HS2).1 (by decide) (by decide)).mono ?_
  rintro e w3 ⟨z, rfl, hz0, hz1, hs, hg⟩
  have HS3 := hide (And.intro hs (grownBy_trans (unhide HS2).2 hg))
  have V03 := hide ((unhide V02).grown hg (by omega))
  have V13 := hide ((unhide V12).grown hg (by omega))
  clear hs hg HS2 V02 V12
  by_cases c0 : z = 0
  · subst c0
    have hq := hide (ints_alloc w3 3 [-1, 1000000000, 1000000001, 0] (by decide))
    have hne : Hid (w3.heap.size ≠ g) := hide (by have := (unhide HS3).1.1.lt; omega)
    go_wp2_with fail
    refine (pickG_st w3.heap.size 4 4 _ ((unhide HS3).1.alloc _) (unhide hq) (unhide hne) (by decide) (by decide)).mono ?_
    rintro e w4 ⟨p, rfl, hp, hs, hg⟩
    have HS4 := hide (And.intro hs (grownBy_trans (grownBy_below (unhide HS3).2 (below_al (Below.refl _ _) _)) hg))
    have V04 := ((unhide V03).al _).grown hg (by omega)
    have V14 := ((unhide V13).al _).grown hg (by omega)
    have a0 := V04.c0
    have a1 := V04.c1
    have a2 := V04.f 0
    have a3 := V04.f 1
    have b0 := V14.c0
    have b1 := V14.c1
    have b2 := V14.f 0
    have b3 := V14.f 1
    have HP := hide hp
    have V05 := V04.other w2.heap.size 0 (.int .i64 p) (by omega)
    have k4 := V05.s0 (.int .i64 p)
    have k5 := V05.s1 (.int .i64 p) (.int .i64 y)
    clear hs hg V04 V14 V05 V03 V13 HS3 hp
    go_wp2
    refine bodyPost_ret (v := rv p y) (by simp [results, Try.results55, go_sem, k4, k5]) rfl ⟨p, y, rfl, unhide HP, (unhide X).2, sg_set (unhide LO) (sg_set (unhide LO) (sg_set (unhide LO) (unhide HS4) _ _ _ (by omega)) _ _ _ (by omega)) _ _ _ (by omega)⟩
  · by_cases c1 : z = 1
    · subst c1
      have hq := hide (ints_alloc w3 3 [-1, 1000000000, 1000000001, 0] (by decide))
      have hne : Hid (w3.heap.size ≠ g) := hide (by have := (unhide HS3).1.1.lt; omega)
      go_wp2_with fail
      refine (pickG_st w3.heap.size 4 4 _ ((unhide HS3).1.alloc _) (unhide hq) (unhide hne) (by decide) (by decide)).mono ?_
      rintro e w4 ⟨p, rfl, hp, hs, hg⟩
      have HS4 := hide (And.intro hs (grownBy_trans (grownBy_below (unhide HS3).2 (below_al (Below.refl _ _) _)) hg))
      have V04 := ((unhide V03).al _).grown hg (by omega)
      have V14 := ((unhide V13).al _).grown hg (by omega)
      have a0 := V04.c0
      have a1 := V04.c1
      have a2 := V04.f 0
      have a3 := V04.f 1
      have b0 := V14.c0
      have b1 := V14.c1
      have b2 := V14.f 0
      have b3 := V14.f 1
      have HP := hide hp
      have V05 := V04.other w2.heap.size 1 (.int .i64 p) (by omega)
      have k4 := V05.s0 (.int .i64 x)
      have k5 := V05.s1 (.int .i64 x) (.int .i64 p)
      clear hs hg V04 V14 V05 V03 V13 HS3 hp
      go_wp2
      refine bodyPost_ret (v := rv x p) (by simp [results, Try.results55, go_sem, k4, k5]) rfl ⟨x, p, rfl, (unhide X).1, unhide HP, sg_set (unhide LO) (sg_set (unhide LO) (sg_set (unhide LO) (unhide HS4) _ _ _ (by omega)) _ _ _ (by omega)) _ _ _ (by omega)⟩
    · by_cases c2 : z = 2
      · subst c2
        have V04 := unhide V03
        have V14 := unhide V13
        have a0 := V04.c0
        have a1 := V04.c1
        have a2 := V04.f 0
        have a3 := V04.f 1
        have b0 := V14.c0
        have b1 := V14.c1
        have b2 := V14.f 0
        have b3 := V14.f 1
        have V05 := (V04.other w2.heap.size 0 (.int .i64 0) (by omega)).other w2.heap.size 1 (.int .i64 0) (by omega)
        have k4 := V05.s0 (.int .i64 0)
        have k5 := V05.s1 (.int .i64 0) (.int .i64 0)
        clear V04 V14 V05 V03 V13
        go_wp2
        refine bodyPost_ret (v := rv 0 0) (by simp [results, Try.results55, go_sem, k4, k5]) rfl ⟨0, 0, rfl, ⟨by decide, by decide⟩, ⟨by decide, by decide⟩, sg_set (unhide LO) (sg_set (unhide LO) (sg_set (unhide LO) (sg_set (unhide LO) (unhide HS3) _ _ _ (by omega)) _ _ _ (by omega)) _ _ _ (by omega)) _ _ _ (by omega)⟩
      · have V04 := unhide V03
        have V14 := unhide V13
        have a0 := V04.c0
        have a1 := V04.c1
        have a2 := V04.f 0
        have a3 := V04.f 1
        have b0 := V14.c0
        have b1 := V14.c1
        have b2 := V14.f 0
        have b3 := V14.f 1
        have V05 := V04
        have k4 := V05.s0 (.int .i64 x)
        have k5 := V05.s1 (.int .i64 x) (.int .i64 y)
        clear V04 V14 V05 V03 V13
        go_wp2
        refine bodyPost_ret (v := rv x y) (by simp [results, Try.results55, go_sem, k4, k5]) rfl ⟨x, y, rfl, (unhide X).1, (unhide X).2, sg_set (unhide LO) (sg_set (unhide LO) (unhide HS3) _ _ _ (by omega)) _ _ _ (by omega)⟩
end Go.Proofs.Ytbapainfiepadaa
