/-
  Several texts of this claim in one: Draw2, DrawG, DrawR, DrawO, DrawP, NameD, Dec (pack.py put them together); each says in its own remark what is proved.
-/
import Derived.Test.YtcplnodfcchdhaaGreatPackG
import Derived.Laws.IdiomStrings
import Derived.Test.YtcplnodfcchdhaaGreatPackA
import Derived.Test.YtcplnodfcchdhaaGreatPackB
/-
  The cursor made anew, and what is drawn by it: numbers out of a list, and texts of so many bytes; walks over the dump.
-/
namespace Go.Proofs.YtcplnodfcchdhaaGreat
open Go.RowKit
set_option linter.unusedVariables false
/-- the cursor at block g stands, the code can be read, and of what w0 held nothing but block g has turned -/
def CSt (w0 : World) (B g : Nat) (ao : Option Addr) (len cap : Nat) (w : World) : Prop := Cur w g ao len cap ∧ Code w B ao len ∧ w0.grownBy w (some g) ∧ B ≤ g
theorem CSt.step {w0 w w' : World} {B g : Nat} {ao : Option Addr} {len cap : Nat} (h : CSt w0 B g ao len cap w) (hc : Cur w' g ao len cap) (hg : w.grownBy w' (some g)) : CSt w0 B g ao len cap w' :=
  ⟨hc, h.2.1.grown hg h.2.2.2, grownBy_trans h.2.2.1 hg, h.2.2.2⟩
theorem CSt.below {w0 w w' : World} {B g : Nat} {ao : Option Addr} {len cap : Nat} (h : CSt w0 B g ao len cap w) (hb : Below w.heap.size w w') : CSt w0 B g ao len cap w' :=
  ⟨h.1.below hb h.1.lt, h.2.1.below hb h.2.1.1, grownBy_below h.2.2.1 hb, h.2.2.2⟩
theorem CSt.alloc {w0 w : World} {B g : Nat} {ao : Option Addr} {len cap : Nat} (h : CSt w0 B g ao len cap w) (o : Obj) : CSt w0 B g ao len cap (w.alloc o) := h.below ((Below.refl _ _).alloc (Nat.le_refl _) o)
theorem CSt.done {w0 w : World} {B g : Nat} {ao : Option Addr} {len cap : Nat} (h : CSt w0 B g ao len cap w) (hg : w0.heap.size ≤ g) : Below w0.heap.size w0 w := below_grownBy (Below.refl _ _) h.2.2.1 (Nat.le_refl _) hg

theorem below_st {w0 : World} {B g : Nat} {ao : Option Addr} {len cap : Nat} (n : Int) (w : World) (h : CSt w0 B g ao len cap w) (hn0 : 0 < n) (hn1 : n ≤ 9223372036854775807) :
    Calls Tryz.prog 41 #[.pointer (some ⟨g, 0, none⟩), .int .i64 n] w fun e w' => ∃ x : Int, e = .returned (.int .i64 x) ∧ 0 ≤ x ∧ x < n ∧ CSt w0 B g ao len cap w' ∧ w.grownBy w' (some g) :=
  (l01Below_any B g ao len cap n w h.1 h.2.1 h.2.2.2 hn0 hn1).mono fun e w' ⟨x, h1, h2, h3, h4, h5⟩ => ⟨x, h1, h2, h3, h.step h4 h5, h5⟩
set_option maxRecDepth 100000 in
set_option maxHeartbeats 1000000 in
theorem new_st (B : Nat) (ao : Option Addr) (len cap : Nat) (w : World) (hcode : Code w B ao len) :
    Calls Tryz.prog 32 #[.slice ao len cap] w fun e w' => e = .returned (.pointer (some ⟨w.heap.size, 0, none⟩)) ∧ CSt w B w.heap.size ao len cap w' := by
  have hl := hcode.2.1
  have HK := hide hcode
  go_enter Tryz.func32, Tryz.ntmps32
  go_wp2
  go_loop [3, 4] (fun v i => ∃ (k : Nat) (h : Int), k ≤ len ∧ i = .int .i64 (k : Int) ∧ v = .int .i64 h ∧ 0 ≤ h ∧ h ≤ 1073741823) (fun _ i => len - (intOf i).toNat)
  case atStart => exact ⟨0, _, Nat.zero_le _, rfl, rfl, by omega, by omega⟩
  case round =>
    obtain ⟨k, h, hk, rfl, rfl, hh0, hh1⟩ := hrel
    by_cases hlt : k < len
    · rcases hcode.2.2 with h0 | ⟨b, off, zs, rfl, hbB, hz, hzs⟩
      · omega
      by_cases h4 : k < 4000
      · have hcz := hz k hlt
        obtain ⟨hz0, hz1⟩ := hzs k
        have hlt2 : (k : Int) < (len : Int) := by omega
        have hm := hide (and_mask (h * 131 + zs k + 7) 1073741823 (by decide) (by decide))
        clear hz hzs hcode
        go_wp2
        go_round
        case rel => exact ⟨k + 1, _, by omega, by go_num, rfl, (unhide hm).1, (unhide hm).2⟩
        case measure => simp [intOf]; omega
      · clear hz hzs hcode
        go_wp2
        go_ret
        refine ⟨rfl, ⟨0, h, ?_, Nat.zero_le _⟩, (unhide HK).below ((Below.refl _ _).alloc (Nat.le_refl _) _) (unhide HK).1, grownBy_below (grownBy_refl w _) ((Below.refl _ _).alloc (Nat.le_refl _) _), (unhide HK).1⟩
        show (w.heap.push _)[w.heap.size]? = _
        simp
    · clear hcode
      go_wp2
      go_ret
      refine ⟨rfl, ⟨0, h, ?_, Nat.zero_le _⟩, (unhide HK).below ((Below.refl _ _).alloc (Nat.le_refl _) _) (unhide HK).1, grownBy_below (grownBy_refl w _) ((Below.refl _ _).alloc (Nat.le_refl _) _), (unhide HK).1⟩
      show (w.heap.push _)[w.heap.size]? = _
      simp

/-- block q holds a list of so many ints -/
def Ints (w : World) (q L : Nat) : Prop := q < w.heap.size ∧ ∀ j, j < L → ∃ z : Int, w.cell? ⟨q, j, none⟩ = some (.int .i64 z) ∧ -9223372036854775808 ≤ z ∧ z ≤ 9223372036854775807
set_option maxRecDepth 100000 in
set_option maxHeartbeats 1000000 in
theorem pick_st {w0 : World} {B g : Nat} {ao : Option Addr} {len cap : Nat} (q L c : Nat) (w : World) (h : CSt w0 B g ao len cap w) (hq : Ints w q L) (hne : q ≠ g) (hL : 0 < L) (hL1 : L ≤ 1000) :
    Calls Tryz.prog 80 #[.pointer (some ⟨g, 0, none⟩), .slice (some ⟨q, 0, none⟩) L c] w fun e w' => ∃ x : Int, e = .returned (.int .i64 x) ∧ -9223372036854775808 ≤ x ∧ x ≤ 9223372036854775807 ∧ CSt w0 B g ao len cap w' := by
  have HS := hide h
  clear h
  go_enter Tryz.func80, Tryz.ntmps80
  go_wp2_with fail
  refine (below_st _ _ (unhide HS) (by omega) (by omega)).mono ?_
  rintro e w1 ⟨x, rfl, hx0, hx1, hs1, hg1⟩
  obtain ⟨X, rfl⟩ := Int.eq_ofNat_of_zero_le hx0
  obtain ⟨z, hz, hz0, hz1⟩ := hq.2 X (by omega)
  have hc : w1.cell? ⟨q, X, none⟩ = some (.int .i64 z) := (World.cell?_of_block (w := w) (a := ⟨q, X, none⟩) (hg1.block q hq.1 (fun e => hne (Option.some.inj e)))).trans hz
  have HS1 := hide hs1
  clear hs1 hg1 hz hq
  go_wp2
  go_ret
  exact ⟨z, rfl, hz0, hz1, unhide HS1⟩
theorem ints_alloc (w : World) (t : TypeId) (zs : List Int) (h : zs.all (fun z => decide (-9223372036854775808 ≤ z) && decide (z ≤ 9223372036854775807)) = true) : Ints (w.alloc (.cells (zs.map (Value.int .i64)).toArray t)) w.heap.size zs.length := by
  refine ⟨by simp, fun j hj => ⟨zs[j], ?_, ?_⟩⟩
  · rw [World.cell?_alloc_mark]; simp [hj]
  · have := List.all_eq_true.1 h zs[j] (List.getElem_mem hj)
    simpa using this
end Go.Proofs.YtcplnodfcchdhaaGreat

/-
  Draws: ints picked, what a cursor leaves alone.
-/
namespace Go.Proofs.YtcplnodfcchdhaaGreat
open Go.RowKit
set_option linter.unusedVariables false
theorem Var.grown {w w' : World} {t : TypeId} {q g : Nat} {x y : Int} (h : Var w t q x y) (hg : w.grownBy w' (some g)) (hn : q ≠ g) : Var w' t q x y := h.same (hg.block q h.lt (fun e => hn (Option.some.inj e)))
def I64 (x : Int) : Prop := -9223372036854775808 ≤ x ∧ x ≤ 9223372036854775807
set_option maxRecDepth 100000 in
set_option maxHeartbeats 1000000 in
theorem pickG_st {w0 : World} {B g : Nat} {ao : Option Addr} {len cap : Nat} (q L c : Nat) (w : World) (h : CSt w0 B g ao len cap w) (hq : Ints w q L) (hne : q ≠ g) (hL : 0 < L) (hL1 : L ≤ 1000) :
    Calls Tryz.prog 80 #[.pointer (some ⟨g, 0, none⟩), .slice (some ⟨q, 0, none⟩) L c] w fun e w' => ∃ x : Int, e = .returned (.int .i64 x) ∧ I64 x ∧ CSt w0 B g ao len cap w' ∧ w.grownBy w' (some g) := by
  have HS := hide h
  clear h
  go_enter Tryz.func80, Tryz.ntmps80
  go_wp2_with fail
  refine (below_st _ _ (unhide HS) (by omega) (by omega)).mono ?_
  rintro e w1 ⟨x, rfl, hx0, hx1, hs1, hg1⟩
  obtain ⟨X, rfl⟩ := Int.eq_ofNat_of_zero_le hx0
  obtain ⟨z, hz, hz0, hz1⟩ := hq.2 X (by omega)
  have hc : w1.cell? ⟨q, X, none⟩ = some (.int .i64 z) := (World.cell?_of_block (w := w) (a := ⟨q, X, none⟩) (hg1.block q hq.1 (fun e => hne (Option.some.inj e)))).trans hz
  have HS1 := hide (And.intro hs1 hg1)
  clear hs1 hg1 hz hq
  go_wp2
  go_ret
  exact ⟨z, rfl, ⟨hz0, hz1⟩, unhide HS1⟩

theorem CSt.gr {w0 w w' : World} {B g : Nat} {ao : Option Addr} {len cap : Nat} (h : CSt w0 B g ao len cap w) (hb : Below w.heap.size w w') : CSt w0 B g ao len cap w' ∧ w.grownBy w' (some g) := ⟨h.below hb, grownBy_below (grownBy_refl w _) hb⟩
/-- a store into a block that is not the cursor's, made behind w1 -/
theorem grown_set {w w1 : World} {g k j : Nat} {v : Value} (h : w.grownBy w1 (some g)) (hk : w.heap.size ≤ k) : w.grownBy (w1.setCell ⟨k, j, none⟩ v) (some g) :=
  ⟨h.os, h.tape, h.output, by simpa using h.size, fun i hi hn => by
    rw [heap_setCell_other w1 ⟨k, j, none⟩ i v (by have : i < k := Nat.lt_of_lt_of_le hi hk; exact Nat.ne_of_lt this)]
    exact h.block i hi hn⟩
theorem CSt.set {w0 w : World} {B g : Nat} {ao : Option Addr} {len cap : Nat} (h : CSt w0 B g ao len cap w) (k j : Nat) (v : Value) (hk : w0.heap.size ≤ k) (hB : B ≤ k) (hn : k ≠ g) : CSt w0 B g ao len cap (w.setCell ⟨k, j, none⟩ v) := by
  refine ⟨?_, ?_, grown_set h.2.2.1 hk, h.2.2.2⟩
  · obtain ⟨i, x, h1, h2⟩ := h.1
    exact ⟨i, x, by rw [heap_setCell_other w ⟨k, j, none⟩ g v (fun e => hn e.symm)]; exact h1, h2⟩
  · have hb : Below B w (w.setCell ⟨k, j, none⟩ v) := (Below.refl B w).setCell hB v
    exact h.2.1.below hb (Nat.le_refl _)
theorem i64_of {x : Int} (h0 : 0 ≤ x) (h1 : x < 1000) : I64 x := ⟨by omega, by omega⟩
/-- where the blocks of a call that draws lie -/
def Low (w0 : World) (B g : Nat) (w : World) : Prop := w0.heap.size ≤ w.heap.size ∧ B ≤ w.heap.size ∧ g < w.heap.size
theorem CSt.low {w0 w : World} {B g : Nat} {ao : Option Addr} {len cap : Nat} (h : CSt w0 B g ao len cap w) : Low w0 B g w := ⟨h.2.2.1.size, by have := h.1.lt; have := h.2.2.2; omega, h.1.lt⟩
theorem sg_set {w0 w wx : World} {B g : Nat} {ao : Option Addr} {len cap : Nat} (l : Low w0 B g w) (h : CSt w0 B g ao len cap wx ∧ w.grownBy wx (some g)) (k j : Nat) (v : Value) (hk : w.heap.size ≤ k) : CSt w0 B g ao len cap (wx.setCell ⟨k, j, none⟩ v) ∧ w.grownBy (wx.setCell ⟨k, j, none⟩ v) (some g) := by
  obtain ⟨l1, l2, l3⟩ := l
  exact ⟨h.1.set k j v (by omega) (by omega) (by omega), grown_set h.2 hk⟩
end Go.Proofs.YtcplnodfcchdhaaGreat

/-
  Amounts drawn: what the model's l02Res answers at a cursor; a walk over the dump.
-/
namespace Go.Proofs.YtcplnodfcchdhaaGreat
open Go.RowKit
set_option linter.unusedVariables false
set_option maxRecDepth 100000 in
set_option maxHeartbeats 2000000 in
theorem l02Res_st {w0 : World} {B g : Nat} {ao : Option Addr} {len cap : Nat} (w : World) (h : CSt w0 B g ao len cap w) :
    Calls Tryz.prog 40 #[.pointer (some ⟨g, 0, none⟩)] w fun e w' => ∃ a b : Int, e = .returned (rv a b) ∧ I64 a ∧ I64 b ∧ CSt w0 B g ao len cap w' ∧ w.grownBy w' (some g) := by
  have hgl := h.1.lt
  have LO := hide h.low
  have HS := hide (CSt.gr h (below_al (Below.refl _ w) (.cells #[.int .i64 0, .int .i64 0] 33)))
  have V0 := hide (var_new w 33 0 0)
  clear h
  go_enter Tryz.func40, Tryz.ntmps40
  go_wp2_with fail
  refine (below_st 20 _ (unhide HS).1 (by decide) (by decide)).mono ?_
  rintro e w1 ⟨x, rfl, hx0, hx1, hs, hg⟩
  have HS1 := hide (And.intro hs (grownBy_trans (unhide HS).2 hg))
  have V01 := hide ((unhide V0).grown hg (by omega))
  clear hs hg HS V0
  go_wp2_with fail
  refine (below_st 10 _ (unhide HS1).1 (by decide) (by decide)).mono ?_
  rintro e w2 ⟨y, rfl, hy0, hy1, hs, hg⟩
  have HS2 := hide (And.intro (hs.alloc (.cells #[.int .i64 x, .int .i64 y] 33)) (grownBy_below (grownBy_trans (unhide HS1).2 hg) (below_al (Below.refl _ _) (.cells #[.int .i64 x, .int .i64 y] 33))))
  have V02 := hide (((unhide V01).grown hg (by omega)).al (.cells #[.int .i64 x, .int .i64 y] 33))
  have V12 := hide (var_new w2 33 x y)
  have hgl2 : g < w2.heap.size := hs.1.lt
  have hlt2 : w.heap.size < w2.heap.size := ((unhide V01).grown hg (by omega)).lt
  have X := hide (And.intro (i64_of hx0 (by omega)) (i64_of hy0 (by omega)))
  clear hs hg HS1 V01
  go_wp2_with fail
  refine (below_st 16 _ (unhide HS2).1 (by decide) (by decide)).mono ?_
  rintro e w3 ⟨z, rfl, hz0, hz1, hs, hg⟩
  have HS3 := hide (And.intro hs (grownBy_trans (unhide HS2).2 hg))
  have V03 := hide ((unhide V02).grown hg (by omega))
  have V13 := hide ((unhide V12).grown hg (by omega))
  clear hs hg HS2 V02 V12
  by_cases c0 : z = 0
  · subst c0
    have hq := hide (ints_alloc w3 3 [-1, 1000000000, 1000000001, 0] (by decide))
    have hne : Hid (w3.heap.size ≠ g) := hide (by have := (unhide HS3).1.1.lt; omega)
    go_wp2_with fail
    refine (pickG_st w3.heap.size 4 4 _ ((unhide HS3).1.alloc _) (unhide hq) (unhide hne) (by decide) (by decide)).mono ?_
    rintro e w4 ⟨p, rfl, hp, hs, hg⟩
    have HS4 := hide (And.intro hs (grownBy_trans (grownBy_below (unhide HS3).2 (below_al (Below.refl _ _) _)) hg))
    have V04 := ((unhide V03).al _).grown hg (by omega)
    have V14 := ((unhide V13).al _).grown hg (by omega)
    have a0 := V04.c0
    have a1 := V04.c1
    have a2 := V04.f 0
    have a3 := V04.f 1
    have b0 := V14.c0
    have b1 := V14.c1
    have b2 := V14.f 0
    have b3 := V14.f 1
    have HP := hide hp
    have V05 := V04.other w2.heap.size 0 (.int .i64 p) (by omega)
    have k4 := V05.s0 (.int .i64 p)
    have k5 := V05.s1 (.int .i64 p) (.int .i64 y)
    clear hs hg V04 V14 V05 V03 V13 HS3 hp
    go_wp2
    refine bodyPost_ret (v := rv p y) (by simp [results, Tryz.results40, go_sem, k4, k5]) rfl ⟨p, y, rfl, unhide HP, (unhide X).2, sg_set (unhide LO) (sg_set (unhide LO) (sg_set (unhide LO) (unhide HS4) _ _ _ (by omega)) _ _ _ (by omega)) _ _ _ (by omega)⟩
  · by_cases c1 : z = 1
    · subst c1
      have hq := hide (ints_alloc w3 3 [-1, 1000000000, 1000000001, 0] (by decide))
      have hne : Hid (w3.heap.size ≠ g) := hide (by have := (unhide HS3).1.1.lt; omega)
      go_wp2_with fail
      refine (pickG_st w3.heap.size 4 4 _ ((unhide HS3).1.alloc _) (unhide hq) (unhide hne) (by decide) (by decide)).mono ?_
      rintro e w4 ⟨p, rfl, hp, hs, hg⟩
      have HS4 := hide (And.intro hs (grownBy_trans (grownBy_below (unhide HS3).2 (below_al (Below.refl _ _) _)) hg))
      have V04 := ((unhide V03).al _).grown hg (by omega)
      have V14 := ((unhide V13).al _).grown hg (by omega)
      have a0 := V04.c0
      have a1 := V04.c1
      have a2 := V04.f 0
      have a3 := V04.f 1
      have b0 := V14.c0
      have b1 := V14.c1
      have b2 := V14.f 0
      have b3 := V14.f 1
      have HP := hide hp
      have V05 := V04.other w2.heap.size 1 (.int .i64 p) (by omega)
      have k4 := V05.s0 (.int .i64 x)
      have k5 := V05.s1 (.int .i64 x) (.int .i64 p)
      clear hs hg V04 V14 V05 V03 V13 HS3 hp
      go_wp2
      refine bodyPost_ret (v := rv x p) (by simp [results, Tryz.results40, go_sem, k4, k5]) rfl ⟨x, p, rfl, (unhide X).1, unhide HP, sg_set (unhide LO) (sg_set (unhide LO) (sg_set (unhide LO) (unhide HS4) _ _ _ (by omega)) _ _ _ (by omega)) _ _ _ (by omega)⟩
    · by_cases c2 : z = 2
      · subst c2
        have V04 := unhide V03
        have V14 := unhide V13
        have a0 := V04.c0
        have a1 := V04.c1
        have a2 := V04.f 0
        have a3 := V04.f 1
        have b0 := V14.c0
        have b1 := V14.c1
        have b2 := V14.f 0
        have b3 := V14.f 1
        have V05 := (V04.other w2.heap.size 0 (.int .i64 0) (by omega)).other w2.heap.size 1 (.int .i64 0) (by omega)
        have k4 := V05.s0 (.int .i64 0)
        have k5 := V05.s1 (.int .i64 0) (.int .i64 0)
        clear V04 V14 V05 V03 V13
        go_wp2
        refine bodyPost_ret (v := rv 0 0) (by simp [results, Tryz.results40, go_sem, k4, k5]) rfl ⟨0, 0, rfl, ⟨by decide, by decide⟩, ⟨by decide, by decide⟩, sg_set (unhide LO) (sg_set (unhide LO) (sg_set (unhide LO) (sg_set (unhide LO) (unhide HS3) _ _ _ (by omega)) _ _ _ (by omega)) _ _ _ (by omega)) _ _ _ (by omega)⟩
      · have V04 := unhide V03
        have V14 := unhide V13
        have a0 := V04.c0
        have a1 := V04.c1
        have a2 := V04.f 0
        have a3 := V04.f 1
        have b0 := V14.c0
        have b1 := V14.c1
        have b2 := V14.f 0
        have b3 := V14.f 1
        have V05 := V04
        have k4 := V05.s0 (.int .i64 x)
        have k5 := V05.s1 (.int .i64 x) (.int .i64 y)
        clear V04 V14 V05 V03 V13
        go_wp2
        refine bodyPost_ret (v := rv x y) (by simp [results, Tryz.results40, go_sem, k4, k5]) rfl ⟨x, y, rfl, (unhide X).1, (unhide X).2, sg_set (unhide LO) (sg_set (unhide LO) (unhide HS3) _ _ _ (by omega)) _ _ _ (by omega)⟩
end Go.Proofs.YtcplnodfcchdhaaGreat

/-
  One of so many: what the model's l01Once answers at a cursor; a walk over the dump.
-/
namespace Go.Proofs.YtcplnodfcchdhaaGreat
open Go.RowKit
set_option linter.unusedVariables false
set_option maxHeartbeats 400000 in
theorem l01Once_any (B g : Nat) (ao : Option Addr) (len cap : Nat) (n : Int) (w : World) (hcur : Cur w g ao len cap) (hcode : Code w B ao len) (hB : B ≤ g) (hn0 : 0 < n) (hn1 : n ≤ 9223372036854775807) :
    Calls Tryz.prog 117 #[.pointer (some ⟨g, 0, none⟩), .int .i64 n] w fun e w' => ∃ x : Bool, e = .returned (.bool x) ∧ Cur w' g ao len cap ∧ w.grownBy w' (some g) := by
  have HC := hide hcur
  have HK := hide hcode
  clear hcur hcode
  go_enter Tryz.func117, Tryz.ntmps117
  go_wp2_with fail
  refine (l01Below_any B g ao len cap _ _ (unhide HC) (unhide HK) hB hn0 hn1).mono ?_
  rintro e w1 ⟨x, rfl, hx0, hx1, hc1, hg1⟩
  have HC1 := hide hc1
  have HG1 := hide hg1
  clear hc1 hg1
  go_wp2
  go_ret
  exact ⟨_, rfl, unhide HC1, unhide HG1⟩
theorem once_st {w0 : World} {B g : Nat} {ao : Option Addr} {len cap : Nat} (n : Int) (w : World) (h : CSt w0 B g ao len cap w) (hn0 : 0 < n) (hn1 : n ≤ 9223372036854775807) :
    Calls Tryz.prog 117 #[.pointer (some ⟨g, 0, none⟩), .int .i64 n] w fun e w' => ∃ x : Bool, e = .returned (.bool x) ∧ CSt w0 B g ao len cap w' :=
  (l01Once_any B g ao len cap n w h.1 h.2.1 h.2.2.2 hn0 hn1).mono fun e w' ⟨x, h1, h4, h5⟩ => ⟨x, h1, h.step h4 h5⟩
end Go.Proofs.YtcplnodfcchdhaaGreat

/-
  A text out of a list, drawn: what the model's l01Pick answers at a cursor; a walk over the dump.
-/
namespace Go.Proofs.YtcplnodfcchdhaaGreat
open Go.RowKit
set_option linter.unusedVariables false
/-- block q holds a list of so many texts, each of at most twelve bytes -/
def PickT (w : World) (q L : Nat) : Prop := q < w.heap.size ∧ ∀ j, j < L → ∃ s : ByteArray, w.cell? ⟨q, j, none⟩ = some (.string s) ∧ s.size ≤ 12
theorem pickt_alloc (w : World) (t : TypeId) (xs : List ByteArray) (h : xs.all (fun s => decide (s.size ≤ 12)) = true) : PickT (w.alloc (.cells (xs.map Value.string).toArray t)) w.heap.size xs.length := by
  refine ⟨by simp, fun j hj => ⟨xs[j], ?_, ?_⟩⟩
  · rw [World.cell?_alloc_mark]; simp [hj]
  · have := List.all_eq_true.1 h xs[j] (List.getElem_mem hj)
    simpa using this
set_option maxRecDepth 100000 in
set_option maxHeartbeats 1000000 in
theorem pickS_st {w0 : World} {B g : Nat} {ao : Option Addr} {len cap : Nat} (q L c : Nat) (w : World) (h : CSt w0 B g ao len cap w) (hq : PickT w q L) (hne : q ≠ g) (hL : 0 < L) (hL1 : L ≤ 1000) :
    Calls Tryz.prog 81 #[.pointer (some ⟨g, 0, none⟩), .slice (some ⟨q, 0, none⟩) L c] w fun e w' => ∃ s : ByteArray, e = .returned (.string s) ∧ s.size ≤ 12 ∧ CSt w0 B g ao len cap w' := by
  have HS := hide h
  clear h
  go_enter Tryz.func81, Tryz.ntmps81
  go_wp2_with fail
  refine (below_st _ _ (unhide HS) (by omega) (by omega)).mono ?_
  rintro e w1 ⟨x, rfl, hx0, hx1, hs1, hg1⟩
  obtain ⟨X, rfl⟩ := Int.eq_ofNat_of_zero_le hx0
  obtain ⟨z, hz, hz0⟩ := hq.2 X (by omega)
  have hc : w1.cell? ⟨q, X, none⟩ = some (.string z) := (World.cell?_of_block (w := w) (a := ⟨q, X, none⟩) (hg1.block q hq.1 (fun e => hne (Option.some.inj e)))).trans hz
  have HS1 := hide hs1
  clear hs1 hg1 hz hq
  go_wp2
  go_ret
  exact ⟨z, rfl, hz0, unhide HS1⟩
end Go.Proofs.YtcplnodfcchdhaaGreat

/-
  A name that is drawn; a walk over the dump.
-/
namespace Go.Proofs.YtcplnodfcchdhaaGreat
open Go.RowKit
set_option linter.unusedVariables false
set_option maxRecDepth 100000 in
set_option maxHeartbeats 1000000 in
theorem name_st {w0 : World} {B g : Nat} {ao : Option Addr} {len cap : Nat} (w : World) (h : CSt w0 B g ao len cap w) :
    Calls Tryz.prog 91 #[.pointer (some ⟨g, 0, none⟩)] w fun e w' => ∃ s : ByteArray, e = .returned (.string s) ∧ s.size ≤ 12 ∧ CSt w0 B g ao len cap w' := by
  have HS := hide h
  clear h
  go_enter Tryz.func91, Tryz.ntmps91
  go_wp2_with fail
  refine (once_st 16 _ (unhide HS) (by decide) (by decide)).mono ?_
  rintro e w1 ⟨x, rfl, hs1⟩
  have HS1 := hide hs1
  have hne : Hid (w1.heap.size ≠ g) := hide (by have := hs1.1.lt; omega)
  clear hs1
  cases x with
  | true =>
    have hq := hide (pickt_alloc w1 9 [⟨#[]⟩, ⟨#[65]⟩, ⟨#[48, 49, 50, 51, 52, 53, 54, 55, 56, 57]⟩, ⟨#[48, 49, 50, 51, 52, 53, 54, 55, 56, 57, 48]⟩, ⟨#[97, 32, 98]⟩] (by decide))
    go_wp2_with fail
    refine (pickS_st w1.heap.size 5 5 _ ((unhide HS1).alloc _) (unhide hq) (unhide hne) (by decide) (by decide)).mono ?_
    rintro e w2 ⟨x, rfl, hx0, hs2⟩
    have HS2 := hide hs2
    clear hs2
    go_wp2
    go_ret
    exact ⟨x, rfl, hx0, unhide HS2⟩
  | false =>
    have hq := hide (pickt_alloc w1 9 [⟨#[97]⟩, ⟨#[98]⟩, ⟨#[114, 111, 111, 116]⟩] (by decide))
    go_wp2_with fail
    refine (pickS_st w1.heap.size 3 3 _ ((unhide HS1).alloc _) (unhide hq) (unhide hne) (by decide) (by decide)).mono ?_
    rintro e w2 ⟨x, rfl, hx0, hs2⟩
    have HS2 := hide hs2
    clear hs2
    go_wp2
    go_ret
    exact ⟨x, rfl, hx0, unhide HS2⟩
end Go.Proofs.YtcplnodfcchdhaaGreat

/-
  What the model's DecText answers at every int: the decimal numeral; a walk over the dump.
-/
namespace Go.Proofs.YtcplnodfcchdhaaGreat
open Go.RowKit
set_option maxHeartbeats 800000 in
theorem specDecText_pos (N : Nat) (w : World) (hN : (N : Int) ≤ 9223372036854775807) :
    Calls Tryz.prog 92 #[.int .i64 (N : Int)] w fun e w' => e = .returned (.string (bs (Lib.itoa N))) ∧ w' = w := by
  by_cases h0 : N = 0
  · subst h0
    go_enter Tryz.func92, Tryz.ntmps92
    go_wp2
    go_ret
    exact ⟨ret_str (by rw [Lib.itoa_nonneg, Lib.decDigits]; rfl), rfl⟩
  · have hlen : (Lib.decDigits N).length ≤ 20 := by rw [Lib.decDigits_length]; exact Lib.nDigits_le20 N (by omega)
    have hne : ((N : Int) == 0) = false := by simp; omega
    have hit : Hid (dgs N = Lib.itoa N) := hide (by rw [dgs_pos h0, Lib.itoa_nonneg])
    have hlen2 : (dgs N).length ≤ 20 := by rw [dgs_pos h0]; exact hlen
    clear hlen
    go_enter Tryz.func92, Tryz.ntmps92
    go_wp2
    go_loop [3, 4, 5] (fun o m _ => ∃ (u : Nat) (l : List UInt8), u ≤ N ∧ m = .int .i64 (u : Int) ∧ o = .string (bs l) ∧ dgs u ++ l = dgs N) (fun _ m _ => (intOf m).toNat)
    case atStart => exact ⟨N, [], Nat.le_refl _, rfl, rfl, by simp⟩
    case round =>
      obtain ⟨u, l, hu, rfl, rfl, hcat⟩ := hrel
      have hl : l.length ≤ 20 := by have := congrArg List.length hcat; simp only [List.length_append] at this; omega
      have hl2 : (bs l).size ≤ 20 := by rw [bs_size]; exact hl
      have HC := hide hcat
      clear hcat hl
      by_cases hu0 : u = 0
      · subst hu0
        go_wp2
        go_ret
        exact ⟨ret_str (congrArg bs ((unhide HC).trans (unhide hit))), rfl⟩
      · go_wp2
        go_round
        case rel => exact ⟨u / 10, UInt8.ofNat (48 + u % 10) :: l, by omega, by go_num, str_eq (by rw [ten_cut _ (by omega), cons_bs]), by rw [← unhide HC, dgs_step hu0]; simp⟩
        case measure => simp [intOf]; omega

set_option maxHeartbeats 800000 in
theorem specDecText_neg (N : Nat) (w : World) (h0 : N ≠ 0) (hN : (N : Int) ≤ 9223372036854775808) :
    Calls Tryz.prog 92 #[.int .i64 (-(N : Int))] w fun e w' => e = .returned (.string (bs (Lib.itoa (-(N : Int))))) ∧ w' = w := by
  have hlen : (Lib.decDigits N).length ≤ 20 := by rw [Lib.decDigits_length]; exact Lib.nDigits_le20 N (by omega)
  have hne : ((-(N : Int)) == 0) = false := by simp; omega
  have hit : Hid (45 :: dgs N = Lib.itoa (-(N : Int))) := hide (by rw [dgs_pos h0, Lib.itoa_neg _ (by omega)])
  have hlen2 : (dgs N).length ≤ 20 := by rw [dgs_pos h0]; exact hlen
  clear hlen
  go_enter Tryz.func92, Tryz.ntmps92
  go_wp2
  go_loop [3, 4, 5] (fun o m _ => ∃ (u : Nat) (l : List UInt8), u ≤ N ∧ m = .int .i64 (-(u : Int)) ∧ o = .string (bs l) ∧ dgs u ++ l = dgs N) (fun _ m _ => (-(intOf m)).toNat)
  case atStart => exact ⟨N, [], Nat.le_refl _, rfl, rfl, by simp⟩
  case round =>
    obtain ⟨u, l, hu, rfl, rfl, hcat⟩ := hrel
    have hl : l.length ≤ 20 := by have := congrArg List.length hcat; simp only [List.length_append] at this; omega
    have hl2 : (bs l).size ≤ 20 := by rw [bs_size]; exact hl
    have HC := hide hcat
    clear hcat hl
    by_cases hu0 : u = 0
    · subst hu0
      go_wp2
      go_ret
      exact ⟨ret_str (by rw [cons_bs]; exact congrArg bs ((congrArg (fun t => 45 :: t) (unhide HC)).trans (unhide hit))), rfl⟩
    · go_wp2
      · go_round
        case rel => exact ⟨u / 10, UInt8.ofNat (48 + u % 10) :: l, by omega, by go_num, str_eq (by rw [ten_cut _ (by omega), cons_bs]), by rw [← unhide HC, dgs_step hu0]; simp⟩
        case measure => simp [intOf]; omega
      · have hd : (u : Int) % 10 ≤ 0 := by assumption
        go_round
        case rel => exact ⟨u / 10, UInt8.ofNat (48 + u % 10) :: l, by omega, by go_num, str_eq (by rw [show (-((u : Int) % 10)).toNat = u % 10 from by omega, show (-((u : Int) % 10) + 1).toNat = u % 10 + 1 from by omega, ten_cut _ (by omega), cons_bs]), by rw [← unhide HC, dgs_step hu0]; simp⟩
        case measure => simp [intOf]; omega

theorem specDecText_any (n : Int) (w : World) (h0 : -9223372036854775808 ≤ n) (h1 : n ≤ 9223372036854775807) :
    Calls Tryz.prog 92 #[.int .i64 n] w fun e w' => e = .returned (.string (bs (Lib.itoa n))) ∧ w' = w := by
  by_cases h : 0 ≤ n
  · obtain ⟨N, rfl⟩ := Int.eq_ofNat_of_zero_le h
    exact specDecText_pos N w h1
  · obtain ⟨N, hN⟩ := Int.eq_ofNat_of_zero_le (a := -n) (by omega)
    have e : n = -(N : Int) := by omega
    subst e
    exact specDecText_neg N w (by omega) (by omega)
end Go.Proofs.YtcplnodfcchdhaaGreat
