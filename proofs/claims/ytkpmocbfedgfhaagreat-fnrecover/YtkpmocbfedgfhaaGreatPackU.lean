/-
  Several texts of this claim in one: Held, LatI, SOwn, SameW, SameS, AppOfB, Draw, Draw2 (pack.py put them together); each says in its own remark what is proved.
-/
import Derived.Test.YtkpmocbfedgfhaaGreatStAll
import Derived.Test.YtkpmocbfedgfhaaGreatPackE
import Derived.Test.YtkpmocbfedgfhaaGreatPackQ
import Derived.Test.YtkpmocbfedgfhaaGreatPackF
import Derived.Test.YtkpmocbfedgfhaaGreatPackP
import Derived.Deep.RegionHeld3
import Derived.Test.YtkpmocbfedgfhaaGreatPackH
import Derived.Test.YtkpmocbfedgfhaaGreatPackJ
import Derived.Deep.RegionWith
import Derived.Deep.QuietTactic
import Derived.Test.YtkpmocbfedgfhaaGreatPackD
import Derived.Test.YtkpmocbfedgfhaaGreatPackB
import Derived.Test.YtkpmocbfedgfhaaGreatPackA
import Derived.BigQuiet
import Derived.Laws.IdiomStrings
/-
  Blocks that stand while a region is run, in whatever order: one word for them.
-/
namespace Go.Proofs.YtkpmocbfedgfhaaGreat
open Go.RowKit
set_option linter.unusedVariables false
/-- the blocks of L stand, all of them ahead of n; nothing of w0 has turned -/
def Held (w0 : World) (n : Nat) (L : List (Nat × Array Value × TypeId)) (wx : World) : Prop :=
  (∀ p ∈ L, p.1 < n ∧ Blk wx p.1 p.2.1 p.2.2) ∧ n ≤ wx.heap.size ∧ w0.heap.size ≤ n ∧ Below w0.heap.size w0 wx
theorem Held.blk {w0 : World} {n : Nat} {L : List (Nat × Array Value × TypeId)} {wx : World} (h : Held w0 n L wx) {p : Nat × Array Value × TypeId} (hp : p ∈ L) : Blk wx p.1 p.2.1 p.2.2 := (h.1 p hp).2
theorem Var.blk {w : World} {t : TypeId} {g : Nat} {x y : Int} (h : Var w t g x y) : Blk w g #[.int .i64 x, .int .i64 y] t := h
end Go.Proofs.YtkpmocbfedgfhaaGreat

/-
  The laws' own word on a record behind another one: later; a walk over the dump.
-/
namespace Go.Proofs.YtkpmocbfedgfhaaGreat
open Go.RowKit
set_option linter.unusedVariables false
set_option linter.unusedSimpArgs false
abbrev takesOn (x : Int) (r : Rc) : Bool := decide (r.kind = 0) && decide (r.app = x)
theorem any_step {x : Int} {rs : List Rc} {k : Nat} (h : k < rs.length) : (rs.drop k).any (takesOn x) = (takesOn x rs[k] || (rs.drop (k + 1)).any (takesOn x)) := by
  rw [List.drop_eq_getElem_cons h, List.any_cons]
set_option maxRecDepth 100000 in
set_option maxHeartbeats 4000000 in
theorem later_any (ao : Option Addr) (len cap : Nat) (rs : List Rc) (i : Nat) (hi : i < rs.length) (w : World) (h : RcRow w ao len rs) (hl : len ≤ 1048576) :
    Calls Tryz.prog 13 #[.slice ao len cap, .int .i64 (i : Int)] w fun e w' => e = .returned (.bool (laterB rs i rs[i].app)) ∧ Below w.heap.size w w' := by
  have HR := hide h
  have HL := hide h.1
  obtain ⟨b, off, rfl, hat⟩ := h.at (show i < len by have := h.1; omega)
  have HI := hide (hat hi)
  obtain ⟨X, hX⟩ : ∃ b, laterB rs i rs[i].app = b := ⟨_, rfl⟩
  rw [hX]
  have HX := hide (show (rs.drop (i + 1)).any (takesOn rs[i].app) = X from hX)
  obtain ⟨⟨ik, ia, iq⟩, hri⟩ : ∃ r, rs[i] = r := ⟨_, rfl⟩
  rw [hri] at HX HI
  simp only at HX
  have i0 : (0 : Int) ≤ i := by omega
  have i1 : (i : Int) < len := by have := unhide HL; omega
  have hil : i + 1 ≤ len := by have := unhide HL; omega
  clear h hat hX hri
  go_enter Tryz.func13, Tryz.ntmps13
  go_wp2
  go_loopw [5] (fun v wr => ∃ k : Nat, k ≤ len ∧ i < k ∧ v = .int .i64 k ∧ Hid ((rs.drop k).any (takesOn ia) = X) ∧ Hid (Below w.heap.size w wr)) (fun v _ => len - (intOf v).toNat)
  case atStart => exact ⟨i + 1, hil, by omega, by go_num, HX, hide (Below.refl _ _)⟩
  case round =>
    clear HX
    obtain ⟨k, hk, hik, rfl, HX, HB⟩ := hrel
    by_cases hlt : k < len
    · have hkl : k < rs.length := by have := unhide HL; omega
      obtain ⟨b', off', e, hat⟩ := ((unhide HR).below (unhide HB)).at hlt
      cases e
      have c := hat hkl
      have hst := any_step (x := ia) hkl
      obtain ⟨⟨rk, ra, rq⟩, hr⟩ : ∃ r, rs[k] = r := ⟨_, rfl⟩
      rw [hr] at c hst
      have HST := hide hst
      have HC := hide c
      have d := (unhide HI).below (unhide HB)
      have HD := hide d
      have R := fun wx (hx : Kp wr wx) => (show wx.cell? ⟨b, off + k * 3, none⟩ = some (.int .i64 rk) ∧ wx.cell? ⟨b, off + k * 3 + 1, none⟩ = some (.int .i64 ra) ∧ wx.cell? ⟨b, off + i * 3 + 1, none⟩ = some (.int .i64 ia) from ⟨((unhide HC).below hx).1, ((unhide HC).below hx).2.1, ((unhide HD).below hx).2.1⟩)
      have k0 : (0 : Int) ≤ k := by omega
      have k1 : (k : Int) < len := by omega
      clear hat hr hst c d hkl
      by_cases hk0 : rk = 0
      · subst hk0
        by_cases hra : ra = ia
        · subst hra
          have hX1 : X = true := by have h1 := unhide HX; rw [unhide HST] at h1; simp [takesOn] at h1; exact h1
          subst hX1
          go_wp2_with fail
          refine wp_region_held_drew (S := fun wx => Kp wr wx) (by kernel_rfl) (show Kp wr _ from (Below.refl _ _).drew) (fun S0 => ?_)
          refine takeW 0 14 _ rfl rfl S0 ?_
          try simp only [Act.put, List.setIfInBounds_toArray, List.set_cons_zero, List.set_cons_succ]
          refine takeW 1 15 _ rfl rfl S0 ?_
          try simp only [Act.put, List.setIfInBounds_toArray, List.set_cons_zero, List.set_cons_succ]
          refine takeW 2 16 _ rfl rfl S0 ?_
          try simp only [Act.put, List.setIfInBounds_toArray, List.set_cons_zero, List.set_cons_succ]
          refine takeW 3 17 _ rfl rfl S0 ?_
          try simp only [Act.put, List.setIfInBounds_toArray, List.set_cons_zero, List.set_cons_succ]
          refine takeW 4 18 _ rfl rfl S0 ?_
          try simp only [Act.put, List.setIfInBounds_toArray, List.set_cons_zero, List.set_cons_succ]
          refine takeW 5 19 (.bool true) rfl rfl S0 ?_
          try simp only [Act.put, List.setIfInBounds_toArray, List.set_cons_zero, List.set_cons_succ]
          refine takeW 6 20 (.bool true) rfl rfl S0 ?_
          try simp only [Act.put, List.setIfInBounds_toArray, List.set_cons_zero, List.set_cons_succ]
          refine takeW 7 21 _ rfl rfl S0 ?_
          try simp only [Act.put, List.setIfInBounds_toArray, List.set_cons_zero, List.set_cons_succ]
          refine takeW 8 22 _ rfl rfl S0 ?_
          try simp only [Act.put, List.setIfInBounds_toArray, List.set_cons_zero, List.set_cons_succ]
          refine takeW 9 23 _ rfl rfl S0 ?_
          try simp only [Act.put, List.setIfInBounds_toArray, List.set_cons_zero, List.set_cons_succ]
          refine takeW 10 24 _ rfl rfl S0 ?_
          try simp only [Act.put, List.setIfInBounds_toArray, List.set_cons_zero, List.set_cons_succ]
          refine takeW 11 25 _ rfl rfl S0 ?_
          try simp only [Act.put, List.setIfInBounds_toArray, List.set_cons_zero, List.set_cons_succ]
          refine takeW 12 26 _ rfl rfl S0 ?_
          try simp only [Act.put, List.setIfInBounds_toArray, List.set_cons_zero, List.set_cons_succ]
          refine takeW 13 27 _ rfl rfl S0 ?_
          try simp only [Act.put, List.setIfInBounds_toArray, List.set_cons_zero, List.set_cons_succ]
          refine takeW 14 28 _ rfl rfl S0 ?_
          try simp only [Act.put, List.setIfInBounds_toArray, List.set_cons_zero, List.set_cons_succ]
          refine takeW 15 29 _ rfl rfl S0 ?_
          try simp only [Act.put, List.setIfInBounds_toArray, List.set_cons_zero, List.set_cons_succ]
          refine takeW 16 30 _ rfl rfl S0 ?_
          try simp only [Act.put, List.setIfInBounds_toArray, List.set_cons_zero, List.set_cons_succ]
          refine takeW 17 31 (.bool true) rfl rfl S0 ?_
          try simp only [Act.put, List.setIfInBounds_toArray, List.set_cons_zero, List.set_cons_succ]
          refine takeW 18 32 (.bool true) rfl rfl S0 ?_
          try simp only [Act.put, List.setIfInBounds_toArray, List.set_cons_zero, List.set_cons_succ]
          refine wpAnyH_done (by kernel_rfl) ?_ _
          have HF := hide (below_on (unhide HB) S0)
          go_wp2
          go_ret
          exact ⟨rfl, unhide HF⟩
        · have hX1 : (rs.drop (k + 1)).any (takesOn ia) = X := by have h1 := unhide HX; rw [unhide HST] at h1; simpa [takesOn, hra] using h1
          have HX1 := hide hX1
          have hra' : (ra == ia) = false := by simpa using hra
          clear hX1
          go_wp2_with fail
          refine wp_region_held_drew (S := fun wx => Kp wr wx) (by kernel_rfl) (show Kp wr _ from (Below.refl _ _).drew) (fun S0 => ?_)
          refine takeW 0 14 _ rfl rfl S0 ?_
          try simp only [Act.put, List.setIfInBounds_toArray, List.set_cons_zero, List.set_cons_succ]
          refine takeW 1 15 _ rfl rfl S0 ?_
          try simp only [Act.put, List.setIfInBounds_toArray, List.set_cons_zero, List.set_cons_succ]
          refine takeW 2 16 _ rfl rfl S0 ?_
          try simp only [Act.put, List.setIfInBounds_toArray, List.set_cons_zero, List.set_cons_succ]
          refine takeW 3 17 _ rfl rfl S0 ?_
          try simp only [Act.put, List.setIfInBounds_toArray, List.set_cons_zero, List.set_cons_succ]
          refine takeW 4 18 _ rfl rfl S0 ?_
          try simp only [Act.put, List.setIfInBounds_toArray, List.set_cons_zero, List.set_cons_succ]
          refine takeW 5 19 (.bool true) rfl rfl S0 ?_
          try simp only [Act.put, List.setIfInBounds_toArray, List.set_cons_zero, List.set_cons_succ]
          refine takeW 6 20 (.bool true) rfl rfl S0 ?_
          try simp only [Act.put, List.setIfInBounds_toArray, List.set_cons_zero, List.set_cons_succ]
          refine takeW 7 21 _ rfl rfl S0 ?_
          try simp only [Act.put, List.setIfInBounds_toArray, List.set_cons_zero, List.set_cons_succ]
          refine takeW 8 22 _ rfl rfl S0 ?_
          try simp only [Act.put, List.setIfInBounds_toArray, List.set_cons_zero, List.set_cons_succ]
          refine takeW 9 23 _ rfl rfl S0 ?_
          try simp only [Act.put, List.setIfInBounds_toArray, List.set_cons_zero, List.set_cons_succ]
          refine takeW 10 24 _ rfl rfl S0 ?_
          try simp only [Act.put, List.setIfInBounds_toArray, List.set_cons_zero, List.set_cons_succ]
          refine takeW 11 25 _ rfl rfl S0 ?_
          try simp only [Act.put, List.setIfInBounds_toArray, List.set_cons_zero, List.set_cons_succ]
          refine takeW 12 26 _ rfl rfl S0 ?_
          try simp only [Act.put, List.setIfInBounds_toArray, List.set_cons_zero, List.set_cons_succ]
          refine takeW 13 27 _ rfl rfl S0 ?_
          try simp only [Act.put, List.setIfInBounds_toArray, List.set_cons_zero, List.set_cons_succ]
          refine takeW 14 28 _ rfl rfl S0 ?_
          try simp only [Act.put, List.setIfInBounds_toArray, List.set_cons_zero, List.set_cons_succ]
          refine takeW 15 29 _ rfl rfl S0 ?_
          try simp only [Act.put, List.setIfInBounds_toArray, List.set_cons_zero, List.set_cons_succ]
          refine takeW 16 30 _ rfl rfl S0 ?_
          try simp only [Act.put, List.setIfInBounds_toArray, List.set_cons_zero, List.set_cons_succ]
          refine takeW 17 31 (.bool false) rfl rfl S0 ?_
          try simp only [Act.put, List.setIfInBounds_toArray, List.set_cons_zero, List.set_cons_succ]
          refine takeW 18 32 (.bool false) rfl rfl S0 ?_
          try simp only [Act.put, List.setIfInBounds_toArray, List.set_cons_zero, List.set_cons_succ]
          refine wpAnyH_done (by kernel_rfl) ?_ _
          have HF := hide (below_on (unhide HB) S0)
          go_wp2
          go_roundw
          case rel => exact ⟨k + 1, by omega, by omega, by go_num, HX1, HF⟩
          case measure => simp [intOf]; omega
      · have hX1 : (rs.drop (k + 1)).any (takesOn ia) = X := by have h1 := unhide HX; rw [unhide HST] at h1; simpa [takesOn, hk0] using h1
        have HX1 := hide hX1
        have hk0' : (rk == 0) = false := by simpa using hk0
        clear hX1
        go_wp2_with fail
        refine wp_region_held_drew (S := fun wx => Kp wr wx) (by kernel_rfl) (show Kp wr _ from (Below.refl _ _).drew) (fun S0 => ?_)
        refine takeW 0 14 _ rfl rfl S0 ?_
        try simp only [Act.put, List.setIfInBounds_toArray, List.set_cons_zero, List.set_cons_succ]
        refine takeW 1 15 _ rfl rfl S0 ?_
        try simp only [Act.put, List.setIfInBounds_toArray, List.set_cons_zero, List.set_cons_succ]
        refine takeW 2 16 _ rfl rfl S0 ?_
        try simp only [Act.put, List.setIfInBounds_toArray, List.set_cons_zero, List.set_cons_succ]
        refine takeW 3 17 _ rfl rfl S0 ?_
        try simp only [Act.put, List.setIfInBounds_toArray, List.set_cons_zero, List.set_cons_succ]
        refine takeW 4 18 _ rfl rfl S0 ?_
        try simp only [Act.put, List.setIfInBounds_toArray, List.set_cons_zero, List.set_cons_succ]
        refine takeW 5 19 (.bool false) rfl rfl S0 ?_
        try simp only [Act.put, List.setIfInBounds_toArray, List.set_cons_zero, List.set_cons_succ]
        refine takeW 6 20 (.bool false) rfl rfl S0 ?_
        try simp only [Act.put, List.setIfInBounds_toArray, List.set_cons_zero, List.set_cons_succ]
        refine takeU 7 21 rfl rfl S0 <| takeU 8 22 rfl rfl S0 <| takeU 9 23 rfl rfl S0 <| takeU 10 24 rfl rfl S0 <| takeU 11 25 rfl rfl S0 <| takeU 12 26 rfl rfl S0 <| takeU 13 27 rfl rfl S0 <| takeU 14 28 rfl rfl S0 <| takeU 15 29 rfl rfl S0 <| takeU 16 30 rfl rfl S0 <| takeU 17 31 rfl rfl S0 <| ?_
        try simp only [Act.put, List.setIfInBounds_toArray, List.set_cons_zero, List.set_cons_succ]
        refine takeW 18 32 (.bool false) rfl rfl S0 ?_
        try simp only [Act.put, List.setIfInBounds_toArray, List.set_cons_zero, List.set_cons_succ]
        refine wpAnyH_done (by kernel_rfl) ?_ _
        have HF := hide (below_on (unhide HB) S0)
        go_wp2
        go_roundw
        case rel => exact ⟨k + 1, by omega, by omega, by go_num, HX1, HF⟩
        case measure => simp [intOf]; omega
    · have hX1 : X = false := by have h1 := unhide HX; rw [List.drop_of_length_le (by have := unhide HL; omega)] at h1; simpa using h1.symm
      subst hX1
      go_wp2
      go_ret
      exact ⟨rfl, unhide HB⟩
end Go.Proofs.YtkpmocbfedgfhaaGreat

/-
  Lists of texts that a call gathers, one behind the other.
-/
namespace Go.Proofs.YtkpmocbfedgfhaaGreat
open Go.RowKit
set_option linter.unusedVariables false
abbrev scells (o : List ByteArray) : List Value := o.map Value.string
theorem Tryz.infoS : (Tryz.prog.info? 9).map (fun i => (i.zero, i.size, i.bytes)) = some (some (.string ByteArray.empty), 1, 16) := by kernel_rfl
theorem sown_below {w w' : World} {B : Nat} {v : Value} {o : List ByteArray} (h : w.ownsRow B 9 1 v o.length (scells o)) (hb : Below w.heap.size w w') : w'.ownsRow B 9 1 v o.length (scells o) :=
  h.kept (grownBy_below (grownBy_refl w none) hb) (by by_cases e : v.ownBlock = none; exact .inl e; exact .inr e)
/-- v is a list of these texts, in memory of its own from block B on -/
def Texts (B : Nat) (w : World) (v : Value) (ps : List (List UInt8)) : Prop := w.ownsRow B 9 1 v (ps.map bs).length (scells (ps.map bs))
theorem Texts.of {B : Nat} {w : World} {v : Value} {ps : List (List UInt8)} {o : List ByteArray} (h : w.ownsRow B 9 1 v o.length (scells o)) (e : o = ps.map bs) : Texts B w v ps := by subst e; exact h
theorem Texts.below {w w' : World} {B : Nat} {v : Value} {ps : List (List UInt8)} (h : Texts B w v ps) (hb : Below w.heap.size w w') : Texts B w' v ps := sown_below h hb
end Go.Proofs.YtkpmocbfedgfhaaGreat

/-
  The laws' own sameTexts and sameQueues, at lists that hold the same; walks over the dump.
-/
namespace Go.Proofs.YtkpmocbfedgfhaaGreat
open Go.RowKit
set_option linter.unusedVariables false
set_option linter.unusedSimpArgs false
/-- two places hold one text; nothing of w has turned -/
def TTwo (w0 : World) (b p c r : Nat) (x : ByteArray) (w : World) : Prop := (w.cell? ⟨b, p, none⟩ = some (.string x) ∧ w.cell? ⟨c, r, none⟩ = some (.string x)) ∧ Below w0.heap.size w0 w
theorem TTwo.drew {w0 w : World} {b p c r : Nat} {x : ByteArray} (h : TTwo w0 b p c r x w) : TTwo w0 b p c r x w.drew := ⟨h.1, h.2.drew⟩
theorem TTwo.read (w0 : World) (b p c r : Nat) (x : ByteArray) : ∀ wx, TTwo w0 b p c r x wx → wx.cell? ⟨b, p, none⟩ = some (.string x) ∧ wx.cell? ⟨c, r, none⟩ = some (.string x) := fun wx h => h.1

/-- two places hold one queue; nothing of w has turned -/
def QTw (w0 : World) (b p c r : Nat) (q : Q) (w : World) : Prop := QAt w b p q ∧ QAt w c r q ∧ Below w0.heap.size w0 w
theorem QTw.drew {w0 w : World} {b p c r : Nat} {q : Q} (h : QTw w0 b p c r q w) : QTw w0 b p c r q w.drew := ⟨h.1.below (Below.refl _ _).drew, h.2.1.below (Below.refl _ _).drew, h.2.2.drew⟩
theorem QTw.read (w0 : World) (b p c r : Nat) (q : Q) : ∀ wx, QTw w0 b p c r q wx → (wx.cell? ⟨b, p, none⟩ = some (.string (bs q.name)) ∧ wx.cell? ⟨b, p + 1, none⟩ = some (.string (bs q.parent)) ∧ wx.cell? ⟨b, p + 2, none⟩ = some (.int .i64 q.due) ∧ wx.cell? ⟨b, p + 3, none⟩ = some (.int .i64 q.most)) ∧ wx.cell? ⟨c, r, none⟩ = some (.string (bs q.name)) ∧ wx.cell? ⟨c, r + 1, none⟩ = some (.string (bs q.parent)) ∧ wx.cell? ⟨c, r + 2, none⟩ = some (.int .i64 q.due) ∧ wx.cell? ⟨c, r + 3, none⟩ = some (.int .i64 q.most) := fun wx h => ⟨h.1, h.2.1⟩
set_option maxRecDepth 100000 in
set_option maxHeartbeats 2000000 in
theorem sameQueues_same (ao bo : Option Addr) (len cap ccap : Nat) (l : List Q) (w : World) (h : QRow w ao len l) (h' : QRow w bo len l) (hl : len ≤ 1048576) :
    Calls Tryz.prog 21 #[.slice ao len cap, .slice bo len ccap] w fun e w' => e = .returned (.bool true) ∧ Below w.heap.size w w' := by
  have HR := hide h
  have HR' := hide h'
  have HL := hide h.1
  clear h h'
  go_enter Tryz.func21, Tryz.ntmps21
  go_wp2
  go_loopw [5] (fun i wr => ∃ k : Nat, k ≤ len ∧ i = .int .i64 k ∧ Hid (Below w.heap.size w wr)) (fun i _ => len - (intOf i).toNat)
  case atStart => exact ⟨0, Nat.zero_le _, rfl, hide (Below.refl _ _)⟩
  case round =>
    obtain ⟨k, hk, rfl, HB⟩ := hrel
    by_cases hlt : k < len
    · obtain ⟨b, off, rfl, hq⟩ := ((unhide HR).below (unhide HB)).at hlt
      obtain ⟨c, coff, rfl, hq'⟩ := ((unhide HR').below (unhide HB)).at hlt
      have hkl : k < l.length := by have := unhide HL; omega
      have A0 := hide (show QTw w b (off + k * 4) c (coff + k * 4) l[k] wr from ⟨hq hkl, hq' hkl, unhide HB⟩)
      obtain ⟨q, hs⟩ : ∃ q, l[k] = q := ⟨_, rfl⟩
      rw [hs] at A0
      have R := QTw.read w b (off + k * 4) c (coff + k * 4) q
      have k0 : (0 : Int) ≤ k := by omega
      have k1 : (k : Int) < len := by omega
      clear hq hq' hs hkl
      go_wp2_with fail
      go_region_held3 (fun wx => QTw w b (off + k * 4) c (coff + k * 4) q wx)
        (first | (with_reducible assumption) | exact (unhide A0).drew)
        (fail)
      have HB2 := hide (unhide A0).2.2.drew
      clear R A0 HR HR'
      go_wp2
      go_roundw
      case rel => exact ⟨k + 1, by omega, by go_num, HB2⟩
      case measure => simp [intOf]; omega
    · go_wp2
      go_ret
      exact ⟨rfl, unhide HB⟩
end Go.Proofs.YtkpmocbfedgfhaaGreat

/-
  The laws' own words on two states that are the same: sameConts, sameApp, sameState; walks over the dump.
-/
namespace Go.Proofs.YtkpmocbfedgfhaaGreat
open Go.RowKit
set_option linter.unusedVariables false
set_option linter.unusedSimpArgs false
set_option maxRecDepth 100000 in
set_option maxHeartbeats 2000000 in
theorem sameConts_same (ao bo : Option Addr) (len cap ccap : Nat) (l : List Con) (w : World) (h : ConRow w ao len l) (h' : ConRow w bo len l) (hl : len ≤ 1048576) :
    Calls Tryz.prog 22 #[.slice ao len cap, .slice bo len ccap] w fun e w' => e = .returned (.bool true) ∧ Below w.heap.size w w' := by
  have HR := hide h
  have HR' := hide h'
  have HL := hide h.1
  clear h h'
  go_enter Tryz.func22, Tryz.ntmps22
  go_wp2
  go_loopw [5] (fun i wr => ∃ k : Nat, k ≤ len ∧ i = .int .i64 k ∧ Hid (Below w.heap.size w wr)) (fun i _ => len - (intOf i).toNat)
  case atStart => exact ⟨0, Nat.zero_le _, rfl, hide (Below.refl _ _)⟩
  case round =>
    obtain ⟨k, hk, rfl, HB⟩ := hrel
    by_cases hlt : k < len
    · obtain ⟨b, off, rfl, hq⟩ := ((unhide HR).below (unhide HB)).at hlt
      obtain ⟨c, coff, rfl, hq'⟩ := ((unhide HR').below (unhide HB)).at hlt
      have hkl : k < l.length := by have := unhide HL; omega
      have A0 := hide (show ConTwo w b (off + k * 5) c (coff + k * 5) l[k] wr from ⟨hq hkl, hq' hkl, unhide HB⟩)
      obtain ⟨q, hs⟩ : ∃ q, l[k] = q := ⟨_, rfl⟩
      rw [hs] at A0
      have R := ConTwo.read w b (off + k * 5) c (coff + k * 5) q
      have k0 : (0 : Int) ≤ k := by omega
      have k1 : (k : Int) < len := by omega
      clear hq hq' hs hkl
      go_wp2_with fail
      go_region_held3 (fun wx => ConTwo w b (off + k * 5) c (coff + k * 5) q wx)
        (first | (with_reducible assumption) | exact (unhide A0).drew)
        (fail)
      have HB2 := hide (unhide A0).2.2.drew
      clear R A0 HR HR'
      go_wp2
      go_roundw
      case rel => exact ⟨k + 1, by omega, by go_num, HB2⟩
      case measure => simp [intOf]; omega
    · go_wp2
      go_ret
      exact ⟨rfl, unhide HB⟩

set_option maxRecDepth 100000 in
set_option maxHeartbeats 2000000 in
theorem sameApp_same (id : Int) (qu : List UInt8) (ao bo : Option Addr) (len cap ccap : Nat) (l : List Ask) (w : World) (h : AskRow w ao len l) (h' : AskRow w bo len l) (hl : len ≤ 1048576) :
    Calls Tryz.prog 23 #[applv id qu ao len cap, applv id qu bo len ccap] w fun e w' => e = .returned (.bool true) ∧ Below w.heap.size w w' := by
  have hb0 := below_al (below_al (Below.refl _ w) (.cells #[.int .i64 id, .string (bs qu), .slice ao len cap] 44)) (.cells #[.int .i64 id, .string (bs qu), .slice bo len ccap] 44)
  have P0 := hide ((blk_new w #[.int .i64 id, .string (bs qu), .slice ao len cap] 44).al (.cells #[.int .i64 id, .string (bs qu), .slice bo len ccap] 44))
  have P1 := hide (blk_new (w.alloc (.cells #[.int .i64 id, .string (bs qu), .slice ao len cap] 44)) #[.int .i64 id, .string (bs qu), .slice bo len ccap] 44)
  rw [al_size] at P1
  have HR := hide (h.below hb0)
  have HR' := hide (h'.below hb0)
  have HL := hide h.1
  have HB0 := hide hb0
  clear h h' hb0
  go_enter Tryz.func23, Tryz.ntmps23
  go_upto_region 1 with fail
  generalize (w.alloc (.cells #[.int .i64 id, .string (bs qu), .slice ao len cap] 44)).alloc (.cells #[.int .i64 id, .string (bs qu), .slice bo len ccap] 44) = w2 at P0 P1 HR HR' HB0 ⊢
  have p0 := (unhide P0).at 0; have p1 := (unhide P0).at 1; have p2 := (unhide P0).at 2
  have q0 := (unhide P1).at 0; have q1 := (unhide P1).at 1; have q2 := (unhide P1).at 2
  simp at p0 p1 p2 q0 q1 q2
  go_wp2
  clear p0 p1 p2 q0 q1 q2
  go_loopw [5] (fun i wr => ∃ k : Nat, k ≤ len ∧ i = .int .i64 k ∧ Hid (Below w2.heap.size w2 wr)) (fun i _ => len - (intOf i).toNat)
  case atStart => exact ⟨0, Nat.zero_le _, rfl, hide (Below.refl _ _)⟩
  case round =>
    obtain ⟨k, hk, rfl, HB⟩ := hrel
    have p2 := ((unhide P0).below (unhide HB)).at 2
    have q2 := ((unhide P1).below (unhide HB)).at 2
    simp at p2 q2
    by_cases hlt : k < len
    · obtain ⟨b, off, rfl, hq⟩ := ((unhide HR).below (unhide HB)).at hlt
      obtain ⟨c, coff, rfl, hq'⟩ := ((unhide HR').below (unhide HB)).at hlt
      have hkl : k < l.length := by have := unhide HL; omega
      have A0 := hide (show AskTwo w2 b (off + k * 5) c (coff + k * 5) l[k] wr from ⟨hq hkl, hq' hkl, unhide HB⟩)
      obtain ⟨q, hs⟩ : ∃ q, l[k] = q := ⟨_, rfl⟩
      rw [hs] at A0
      have R := AskTwo.read w2 b (off + k * 5) c (coff + k * 5) q
      have R2 := fun wx (hx : AskTwo w2 b (off + k * 5) c (coff + k * 5) q wx) => (show wx.cell? ⟨w.heap.size, 2, none⟩ = some (.slice (some ⟨b, off, none⟩) len cap) ∧ wx.cell? ⟨w.heap.size + 1, 2, none⟩ = some (.slice (some ⟨c, coff, none⟩) len ccap) from ⟨((unhide P0).below hx.2.2).at 2, ((unhide P1).below hx.2.2).at 2⟩)
      have k0 : (0 : Int) ≤ k := by omega
      have k1 : (k : Int) < len := by omega
      clear hq hq' hs hkl
      go_wp2_with fail
      go_region_held3 (fun wx => AskTwo w2 b (off + k * 5) c (coff + k * 5) q wx)
        (first | (with_reducible assumption) | exact (unhide A0).drew)
        (fail)
      have HB2 := hide (unhide A0).2.2.drew
      clear R R2 A0 HR HR' p2 q2
      go_wp2
      go_roundw
      case rel => exact ⟨k + 1, by omega, by go_num, HB2⟩
      case measure => simp [intOf]; omega
    · have HF := hide (below_on (unhide HB0) (unhide HB))
      go_wp2
      go_ret
      exact ⟨rfl, unhide HF⟩

set_option maxRecDepth 100000 in
set_option maxHeartbeats 4000000 in
theorem sameState_same (x y : Sls) (s : St) (w : World) (h : SRow w x s) (h' : SRow w y s) (hf : FitSt s) :
    Calls Tryz.prog 8 #[sv x s, sv y s] w fun e w' => e = .returned (.bool true) ∧ Below w.heap.size w w' := by
  have hb0 := below_al (below_al (Below.refl _ w) (.cells (svc x s) 31)) (.cells (svc y s) 31)
  have P0 := hide ((blk_new w (svc x s) 31).al (.cells (svc y s) 31))
  have P1 := hide (blk_new (w.alloc (.cells (svc x s) 31)) (svc y s) 31)
  rw [al_size] at P1
  have HB0 := hide hb0
  obtain ⟨qa, ql, qc, aa, al, ac, ma, ml, mc, ca, cl, cc⟩ := x
  obtain ⟨ra, rl, rc, ba, bl, bc, na, nl, nc, da, dl, dc⟩ := y
  obtain ⟨qs, clock, epoch, next, serial, apps, ms, cs⟩ := s
  obtain rfl : ql = rl := h.1.1.trans h'.1.1.symm
  obtain rfl : al = bl := h.2.1.1.trans h'.2.1.1.symm
  obtain rfl : ml = nl := h.2.2.1.1.trans h'.2.2.1.1.symm
  obtain rfl : cl = dl := h.2.2.2.1.trans h'.2.2.2.1.symm
  have hlq : ql ≤ 1048576 := by have := h.1.1; have := hf.1.1; simp only at *; omega
  have hla : al ≤ 1048576 := by have := h.2.1.1; have := hf.2.1.1; simp only at *; omega
  have hlc : cl ≤ 1048576 := by have := h.2.2.2.1; have := hf.2.2.2.1; simp only at *; omega
  have CQ := hide (fun wx (hb : Below w.heap.size w wx) => sameQueues_same qa ra ql qc rc qs wx (h.1.below hb) (h'.1.below hb) hlq)
  have CC := hide (fun wx (hb : Below w.heap.size w wx) => sameConts_same ca da cl cc dc cs wx (h.2.2.2.below hb) (h'.2.2.2.below hb) hlc)
  have HA := hide (show ApplRow w aa al apps from h.2.1)
  have HA' := hide (show ApplRow w ba al apps from h'.2.1)
  have HM := hide (show MacRow w ma ml ms from h.2.2.1)
  have HM' := hide (show MacRow w na ml ms from h'.2.2.1)
  have HLA := hide (show al = apps.length from h.2.1.1)
  have HLM := hide (show ml = ms.length from h.2.2.1.1)
  have HK := hide (show ∀ q ∈ apps, q.asks.length ≤ 1048576 from fun q hq => (hf.2.1.2 q hq).2.1)
  have hlm : ml ≤ 1048576 := by have := h.2.2.1.1; have := hf.2.2.1.1; simp only at *; omega
  clear h h' hf hb0
  go_enter Tryz.func8, Tryz.ntmps8
  go_upto_region 1 with fail
  generalize (w.alloc (.cells #[.slice qa ql qc, .int .i64 clock, .int .i64 epoch, .int .i64 next, .int .i64 serial, .slice aa al ac, .slice ma ml mc, .slice ca cl cc] 31)).alloc (.cells #[.slice ra ql rc, .int .i64 clock, .int .i64 epoch, .int .i64 next, .int .i64 serial, .slice ba al bc, .slice na ml nc, .slice da cl dc] 31) = w2 at P0 P1 HB0 ⊢
  have p0 := (unhide P0).at 0; have p1 := (unhide P0).at 1; have p2 := (unhide P0).at 2; have p3 := (unhide P0).at 3; have p4 := (unhide P0).at 4; have p5 := (unhide P0).at 5; have p6 := (unhide P0).at 6; have p7 := (unhide P0).at 7
  have q0 := (unhide P1).at 0; have q1 := (unhide P1).at 1; have q2 := (unhide P1).at 2; have q3 := (unhide P1).at 3; have q4 := (unhide P1).at 4; have q5 := (unhide P1).at 5; have q6 := (unhide P1).at 6; have q7 := (unhide P1).at 7
  simp at p0 p1 p2 p3 p4 p5 p6 p7 q0 q1 q2 q3 q4 q5 q6 q7
  go_wp2_with fail
  refine (unhide CQ _ (unhide HB0)).mono ?_
  rintro e w3 ⟨rfl, hb⟩
  have HB3 := hide (below_on (unhide HB0) hb)
  have P03 := hide ((unhide P0).below hb)
  have P13 := hide ((unhide P1).below hb)
  clear hb p0 p1 p2 p3 p4 p5 p6 p7 q0 q1 q2 q3 q4 q5 q6 q7 HB0 P0 P1
  have p0 := (unhide P03).at 0; have p1 := (unhide P03).at 1; have p2 := (unhide P03).at 2; have p3 := (unhide P03).at 3; have p4 := (unhide P03).at 4; have p5 := (unhide P03).at 5; have p6 := (unhide P03).at 6; have p7 := (unhide P03).at 7
  have q0 := (unhide P13).at 0; have q1 := (unhide P13).at 1; have q2 := (unhide P13).at 2; have q3 := (unhide P13).at 3; have q4 := (unhide P13).at 4; have q5 := (unhide P13).at 5; have q6 := (unhide P13).at 6; have q7 := (unhide P13).at 7
  simp at p0 p1 p2 p3 p4 p5 p6 p7 q0 q1 q2 q3 q4 q5 q6 q7
  go_wp2_with fail
  refine (unhide CC _ (unhide HB3)).mono ?_
  rintro e w4 ⟨rfl, hb⟩
  have HB4 := hide (below_on (unhide HB3) hb)
  have P04 := hide ((unhide P03).below hb)
  have P14 := hide ((unhide P13).below hb)
  clear hb p0 p1 p2 p3 p4 p5 p6 p7 q0 q1 q2 q3 q4 q5 q6 q7 HB3 P03 P13
  go_wp2
  go_loopw [5] (fun i wr => ∃ k : Nat, k ≤ al ∧ i = .int .i64 k ∧ Hid (Below w4.heap.size w4 wr)) (fun i _ => al - (intOf i).toNat)
  case atStart => exact ⟨0, Nat.zero_le _, rfl, hide (Below.refl _ _)⟩
  case round =>
    obtain ⟨k, hk, rfl, HB⟩ := hrel
    have p5 := ((unhide P04).below (unhide HB)).at 5
    have q5 := ((unhide P14).below (unhide HB)).at 5
    simp at p5 q5
    by_cases hlt : k < al
    · obtain ⟨b, off, rfl, hq⟩ := ((unhide HA).below (below_on (unhide HB4) (unhide HB))).at hlt
      obtain ⟨c, coff, rfl, hq'⟩ := ((unhide HA').below (below_on (unhide HB4) (unhide HB))).at hlt
      have hkl : k < apps.length := by have := unhide HLA; omega
      obtain ⟨xo, xl, xc, hx⟩ := hq hkl
      obtain ⟨yo, yl, yc, hy⟩ := hq' hkl
      obtain rfl : xl = yl := hx.2.2.2.1.1.trans hy.2.2.2.1.1.symm
      have hxl : xl ≤ 1048576 := by have := unhide HK apps[k] (List.getElem_mem _); have := hx.2.2.2.1.1; omega
      have A0 := hide (show ApplTwo w4 b (off + k * 3) c (coff + k * 3) apps[k] xo yo xl xc yc wr from ⟨hx, hy, unhide HB⟩)
      obtain ⟨q, hs⟩ : ∃ q, apps[k] = q := ⟨_, rfl⟩
      rw [hs] at A0
      have R := ApplTwo.read w4 b (off + k * 3) c (coff + k * 3) q xo yo xl xc yc
      have R2 := fun wx (hx : ApplTwo w4 b (off + k * 3) c (coff + k * 3) q xo yo xl xc yc wx) => (show wx.cell? ⟨w.heap.size, 5, none⟩ = some (.slice (some ⟨b, off, none⟩) al ac) ∧ wx.cell? ⟨w.heap.size + 1, 5, none⟩ = some (.slice (some ⟨c, coff, none⟩) al bc) from ⟨((unhide P04).below hx.2.2).at 5, ((unhide P14).below hx.2.2).at 5⟩)
      have k0 : (0 : Int) ≤ k := by omega
      have k1 : (k : Int) < al := by omega
      clear hq hq' hs hkl hx hy
      go_wp2_with fail
      go_region_held3 (fun wx => ApplTwo w4 b (off + k * 3) c (coff + k * 3) q xo yo xl xc yc wx)
        (first | (with_reducible assumption) | exact (unhide A0).drew | exact ApplTwo.call (by assumption) (by assumption))
        (first
        | (go_at_call 23; refine (sameApp_same _ _ xo yo xl xc yc q.asks _ ?_ ?_ hxl).mono ?_; (exact (show ApplTwo w4 b (off + k * 3) c (coff + k * 3) q xo yo xl xc yc _ by assumption).1.2.2.2.1); (exact (show ApplTwo w4 b (off + k * 3) c (coff + k * 3) q xo yo xl xc yc _ by assumption).2.1.2.2.2.1); rintro e wt ⟨rfl, hb⟩; have SA := ApplTwo.call (w0 := w4) (b := b) (p := off + k * 3) (c := c) (r := coff + k * 3) (q := q) (ao := xo) (bo := yo) (len := xl) (cap := xc) (ccap := yc) (by assumption) hb))
      have HB2 := hide SA.2.2
      clear SA R R2 A0 p5 q5
      go_wp2
      go_roundw
      case rel => exact ⟨k + 1, by omega, by go_num, HB2⟩
      case measure => simp [intOf]; omega
    · have P05 := hide ((unhide P04).below (unhide HB))
      have P15 := hide ((unhide P14).below (unhide HB))
      have HB5 := hide (below_on (unhide HB4) (unhide HB))
      obtain ⟨w5, rfl⟩ : ∃ w5, w5 = wr := ⟨wr, rfl⟩
      clear P04 P14 HB4 HB
      go_wp2
      go_loopw [6] (fun i wr => ∃ k : Nat, k ≤ ml ∧ i = .int .i64 k ∧ Hid (Below w5.heap.size w5 wr)) (fun i _ => ml - (intOf i).toNat)
      case atStart => exact ⟨0, Nat.zero_le _, rfl, hide (Below.refl _ _)⟩
      case round =>
        clear p5 q5
        obtain ⟨j, hj, rfl, HB⟩ := hrel
        have p6 := ((unhide P05).below (unhide HB)).at 6
        have q6 := ((unhide P15).below (unhide HB)).at 6
        simp at p6 q6
        by_cases hlt2 : j < ml
        · obtain ⟨b, off, rfl, hq⟩ := ((unhide HM).below (below_on (unhide HB5) (unhide HB))).at hlt2
          obtain ⟨c, coff, rfl, hq'⟩ := ((unhide HM').below (below_on (unhide HB5) (unhide HB))).at hlt2
          have hkl : j < ms.length := by have := unhide HLM; omega
          have A0 := hide (show MacTwo w5 b (off + j * 4) c (coff + j * 4) ms[j] wr from ⟨hq hkl, hq' hkl, unhide HB⟩)
          obtain ⟨q, hs⟩ : ∃ q, ms[j] = q := ⟨_, rfl⟩
          rw [hs] at A0
          have R := MacTwo.read w5 b (off + j * 4) c (coff + j * 4) q
          have R2 := fun wx (hx : MacTwo w5 b (off + j * 4) c (coff + j * 4) q wx) => (show wx.cell? ⟨w.heap.size, 6, none⟩ = some (.slice (some ⟨b, off, none⟩) ml mc) ∧ wx.cell? ⟨w.heap.size + 1, 6, none⟩ = some (.slice (some ⟨c, coff, none⟩) ml nc) from ⟨((unhide P05).below hx.2.2).at 6, ((unhide P15).below hx.2.2).at 6⟩)
          have j0 : (0 : Int) ≤ j := by omega
          have j1 : (j : Int) < ml := by omega
          clear hq hq' hs hkl
          go_wp2_with fail
          go_region_held3 (fun wx => MacTwo w5 b (off + j * 4) c (coff + j * 4) q wx)
            (first | (with_reducible assumption) | exact (unhide A0).drew)
            (fail)
          have HB2 := hide (unhide A0).2.2.drew
          clear R R2 A0 p6 q6
          go_wp2
          go_roundw
          case rel => exact ⟨j + 1, by omega, by go_num, HB2⟩
          case measure => simp [intOf]; omega
        · have HF := hide (below_on (unhide HB5) (unhide HB))
          go_wp2
          go_ret
          exact ⟨rfl, unhide HF⟩
end Go.Proofs.YtkpmocbfedgfhaaGreat

/-
  The application of a number: AppOf, by the program and by the model; walks over the dump.
-/
namespace Go.Proofs.YtkpmocbfedgfhaaGreat
open Go.RowKit Go.Maps
set_option linter.unusedVariables false
def appOfV (s : St) (id : Int) : Appl × Bool := match findAp id s.apps with
  | none => (⟨0, [], []⟩, false)
  | some a => (a, true)
theorem par_find {id : Int} (P : AV → Appl → Prop) (hid : ∀ v a, P v a → v.id = a.id) : ∀ (hs : List AV) (l : List Appl), hs.length = l.length → (∀ i (h : i < hs.length) (h' : i < l.length), P hs[i] l[i]) →
    (findA id hs = none ∧ findAp id l = none) ∨ ∃ v a, findA id hs = some v ∧ findAp id l = some a ∧ P v a ∧ a ∈ l
  | [], [], _, _ => .inl ⟨rfl, rfl⟩
  | v :: t, a :: r, h1, h2 => by
    have h0 := h2 0 (by simp) (by simp)
    simp only [List.getElem_cons_zero] at h0
    by_cases e : a.id = id
    · have e' : v.id = id := (hid _ _ h0).trans e
      exact .inr ⟨v, a, by simp [findA, e'], by simp [findAp, e], h0, by simp⟩
    · have e' : ¬ v.id = id := fun x => e ((hid _ _ h0).symm.trans x)
      rcases par_find P hid t r (by simpa using h1) (fun i a b => by have := h2 (i + 1) (by simpa using a) (by simpa using b); simpa using this) with ⟨x, y⟩ | ⟨v', a', x, y, z, m⟩
      · exact .inl ⟨by simpa [findA, e'] using x, by simpa [findAp, e] using y⟩
      · exact .inr ⟨v', a', by simpa [findA, e'] using x, by simpa [findAp, e] using y, z, List.mem_cons_of_mem _ m⟩
  | [], a :: r, h1, _ => by simp at h1
  | v :: t, [], h1, _ => by simp at h1
/-- behind the box of a state and the result's variable -/
def appW (w : World) (c : Array Value) : World := (w.alloc (.cells c 31)).alloc (.cells #[.int .i64 0, .string ByteArray.empty, .slice none 0 0] 44)
theorem appW_size (w : World) (c : Array Value) : (appW w c).heap.size = w.heap.size + 1 + 1 := by simp only [appW, al_size]
theorem appW_below (w : World) (c : Array Value) : Below w.heap.size w (appW w c) := below_al (below_al (Below.refl _ w) _) _
theorem appW_var (w : World) (c : Array Value) : Blk (appW w c) (w.heap.size + 1) #[.int .i64 0, .string ByteArray.empty, .slice none 0 0] 44 := by
  have := blk_new (w.alloc (.cells c 31)) #[.int .i64 0, .string ByteArray.empty, .slice none 0 0] 44
  rwa [al_size] at this

set_option maxRecDepth 100000 in
set_option maxHeartbeats 4000000 in
theorem implAppOf_any (x : Sls) (s : St) (id : Int) (w : World) (h : SRow w x s) (hf : FitSt s) (hw : ∀ a ∈ s.apps, (Lit.int .i64 a.id).wf = true) (hi : (Lit.int .i64 id).wf = true) :
    Calls Tryz.prog 12 #[sv x s, .int .i64 id] w fun e w' => ∃ v, e = .returned (.tuple #[.agg #[.int .i64 (appOfV s id).1.id, .string (bs (appOfV s id).1.queue), v], .bool (appOfV s id).2]) ∧ Hid (AOwn w.heap.size w' v (appOfV s id).1.asks ∧ Below w.heap.size w w') := by
  have hal : x.al ≤ 1048576 := by have := h.len.2.1; have := hf.2.1.1; omega
  obtain ⟨hs, hav, hh⟩ := h.2.1.heads
  have hwf : ∀ v ∈ hs, (Lit.int .i64 v.id).wf = true := fun v hv => by
    obtain ⟨i, hi, rfl⟩ := List.mem_iff_getElem.1 hv
    have hi' : i < s.apps.length := by rw [← hh.1]; exact hi
    rw [(hh.2 i hi hi').1]
    exact hw _ (List.getElem_mem _)
  have CM := hide (fun wx (hb : Below w.heap.size w wx) => apps_ex x s hs wx (hav.below hb) hal hwf)
  obtain ⟨kl, hkey⟩ := keyKey (nm := []) (k := id) (by decide) hi
  have HKEY := hide hkey
  have hpf := par_find (id := id) (fun v a => v.id = a.id ∧ v.queue = a.queue ∧ AskRow w v.ao v.len a.asks ∧ v.len ≤ v.cap) (fun v a h => h.1) hs s.apps hh.1 hh.2
  have HPF := hide hpf
  have HFA := hide hf.2.1
  have HAV := hide (show appOfV s id = match findAp id s.apps with | none => (⟨0, [], []⟩, false) | some a => (a, true) from rfl)
  obtain ⟨⟨⟨ai, aq, aas⟩, fo⟩, hap⟩ : ∃ r, appOfV s id = r := ⟨_, rfl⟩
  rw [hap] at HAV ⊢
  clear h hf hw hi hav hh hwf hkey hpf hap
  obtain ⟨qa, ql, qc, aa, al, ac, ma, ml, mc, ca, cl, cc⟩ := x
  obtain ⟨qs, clock, epoch, next, serial, apps, ms, cs⟩ := s
  simp only at CM HPF HFA HAV hal ⊢
  have HB0 := hide (appW_below w (svc ⟨qa, ql, qc, aa, al, ac, ma, ml, mc, ca, cl, cc⟩ ⟨qs, clock, epoch, next, serial, apps, ms, cs⟩))
  have V0 := hide (appW_var w (svc ⟨qa, ql, qc, aa, al, ac, ma, ml, mc, ca, cl, cc⟩ ⟨qs, clock, epoch, next, serial, apps, ms, cs⟩))
  go_enter Tryz.func12, Tryz.ntmps12
  go_wp2_with fail
  refine (unhide CM _ (unhide HB0)).mono ?_
  rintro e w1 ⟨bm, rfl, ⟨hbm, D, hown, hk⟩, hb⟩
  have HB1 := hide (below_on (unhide HB0) hb)
  have V1 := hide ((unhide V0).below hb)
  obtain ⟨v, hlk, hv1, hv2⟩ := lookA hown hk (unhide HKEY)
  rcases unhide HPF with ⟨hf1, hf2⟩ | ⟨u, a, hf1, hf2, ⟨hu1, hu2, hu3, hu4⟩, hmem⟩
  · obtain rfl := hv2 hf1
    rw [hf1] at hlk
    rw [hf2] at HAV
    have hz := unhide HAV
    simp only [Prod.mk.injEq, Appl.mk.injEq] at hz
    obtain ⟨⟨rfl, rfl, rfl⟩, rfl⟩ := hz
    have hl2 : (Instr.lookup 91 (.map (some bm)) (.agg #[.string { data := #[] }, .int .i64 id]) true).run Tryz.prog w1 = .ok (.tuple #[.agg #[.int .i64 0, .string { data := #[] }, .slice none 0 0], .bool false]) w1 := hlk
    have hl3 : (Instr.lookup 91 (.map (some bm)) (.agg #[.string ByteArray.empty, .int .i64 id]) true).run Tryz.prog w1 = .ok (.tuple #[.agg #[.int .i64 0, .string { data := #[] }, .slice none 0 0], .bool false]) w1 := hlk
    have V2 := (unhide V1).al (.cells #[.int .i64 0, .string { data := #[] }, .slice none 0 0] 44)
    have HV2 := hide V2
    have t0 := V2.at 0
    have t1 := V2.at 1
    have t2 := V2.at 2
    have tf0 := V2.f 0
    have tf1 := V2.f 1
    have tf2 := V2.f 2
    simp at t0 t1 t2
    clear hlk hv1 hv2 hf1 hf2 hown hk hb V2 HPF
    go_wp2
    have X1 := (((unhide HV2).set 0 (.int .i64 0)).set 1 (.string { data := #[] })).set 2 (.slice none 0 0)
    have x0 := X1.at 0
    have x1 := X1.at 1
    have x2 := X1.at 2
    simp at x0 x1 x2
    refine bodyPost_ret (v := .tuple #[.agg #[.int .i64 0, .string { data := #[] }, .slice none 0 0], .bool false]) (by simp [results, Tryz.results12, go_sem, x0, x1, x2]) rfl ⟨_, rfl, hide ⟨aown_nil _ _, ?_⟩⟩
    exact below_sc (below_sc (below_sc (below_al (unhide HB1) _) _ _ _ (by omega)) _ _ _ (by omega)) _ _ _ (by omega)
  · have hvu := hv1 u hf1 rfl
    subst hvu
    rw [hf1] at hlk
    rw [hf2] at HAV
    have hz := unhide HAV
    simp only [Prod.mk.injEq] at hz
    obtain ⟨hza, rfl⟩ := hz
    subst hza
    obtain ⟨ui, uq, uo, ul, uc⟩ := v
    simp only at hu1 hu2 hu3 hu4
    subst hu1 hu2
    have hfa := (unhide HFA).2 _ hmem
    have hul : ul ≤ 1048576 := by have h1 := hu3.1; have h2 := hfa.2.1; simp only at h2; omega
    have CO := hide (fun wx (hb : Below w.heap.size w wx) => copyOfApp_any ui uq uo ul uc aas wx (hu3.below hb) hul hfa.1 hfa.2.2)
    have hl2 : (Instr.lookup 91 (.map (some bm)) (.agg #[.string { data := #[] }, .int .i64 id]) true).run Tryz.prog w1 = .ok (.tuple #[.agg #[.int .i64 ui, .string (bs uq), .slice uo ul uc], .bool true]) w1 := hlk
    have hl3 : (Instr.lookup 91 (.map (some bm)) (.agg #[.string ByteArray.empty, .int .i64 id]) true).run Tryz.prog w1 = .ok (.tuple #[.agg #[.int .i64 ui, .string (bs uq), .slice uo ul uc], .bool true]) w1 := hlk
    have HB2 := hide (below_al (unhide HB1) (.cells #[.int .i64 ui, .string (bs uq), .slice uo ul uc] 44))
    have V2 := hide ((unhide V1).al (.cells #[.int .i64 ui, .string (bs uq), .slice uo ul uc] 44))
    have hs1 : w.heap.size + 1 + 1 ≤ w1.heap.size := by have := hb.size; rw [appW_size] at this; exact this
    clear hlk hv1 hv2 hf1 hf2 hown hk hb HPF hu3 hu4 hmem hfa HAV HB1 V1 HB0 V0 CM HFA
    go_wp2_with fail
    refine (unhide CO _ (unhide HB2)).mono ?_
    rintro e w2 ⟨v, rfl, ho, hb⟩
    have HO := hide (ho.base (B' := w.heap.size + 2) (by rw [al_size]; omega))
    have HV3 := hide ((unhide V2).below hb)
    have HB3 := hide (below_on (unhide HB2) hb)
    obtain ⟨xo, xc, rfl, _⟩ := ho.row
    obtain ⟨n, hnn⟩ : ∃ n, aas.length = n := ⟨_, rfl⟩
    rw [hnn] at HO ⊢
    clear ho hb hnn CO HB2 V2 hl2 hl3
    have t0 := (unhide HV3).at 0
    have t1 := (unhide HV3).at 1
    have t2 := (unhide HV3).at 2
    have tf0 := (unhide HV3).f 0
    have tf1 := (unhide HV3).f 1
    have tf2 := (unhide HV3).f 2
    simp at t0 t1 t2
    go_wp2
    have X1 := (((unhide HV3).set 0 (.int .i64 ui)).set 1 (.string (bs uq))).set 2 (.slice xo n xc)
    have x0 := X1.at 0
    have x1 := X1.at 1
    have x2 := X1.at 2
    simp at x0 x1 x2
    refine bodyPost_ret (v := .tuple #[.agg #[.int .i64 ui, .string (bs uq), .slice xo n xc], .bool true]) (by simp [results, Tryz.results12, go_sem, x0, x1, x2]) rfl ⟨_, rfl, hide ⟨?_, ?_⟩⟩
    · exact ((((unhide HO).other3 (w.heap.size + 1) 0 (.int .i64 ui) (by omega)).other3 (w.heap.size + 1) 1 (.string (bs uq)) (by omega)).other3 (w.heap.size + 1) 2 (.slice xo n xc) (by omega)).base (by omega)
    · exact below_sc (below_sc (below_sc (unhide HB3) _ _ _ (by omega)) _ _ _ (by omega)) _ _ _ (by omega)
end Go.Proofs.YtkpmocbfedgfhaaGreat

/-
  What the laws' own draws do: a cursor over the code's bytes, and numbers and texts drawn by it, each within its bounds; walks over the dump.
-/
namespace Go.Proofs.YtkpmocbfedgfhaaGreat
open Go.RowKit
set_option linter.unusedVariables false
theorem and_mask (x m : Int) (h0 : 0 ≤ m) (h1 : m < 9223372036854775808) : 0 ≤ bits .and .i64 x m ∧ bits .and .i64 x m ≤ m := by
  obtain ⟨M, rfl⟩ := Int.eq_ofNat_of_zero_le h0
  have hM : (BitVec.ofInt 64 (M : Int)).toNat = M := by rw [BitVec.toNat_ofInt]; omega
  have hle : (BitVec.ofInt 64 x &&& BitVec.ofInt 64 (M : Int)).toNat ≤ M := by
    rw [BitVec.toNat_and, hM]; exact Nat.and_le_right
  have e : bits .and .i64 x (M : Int) = IntKind.i64.wrap ((BitVec.ofInt 64 x &&& BitVec.ofInt 64 (M : Int)).toNat : Int) := rfl
  rw [e, IntKind.wrap_i64]
  omega

/-- the code's bytes can be read: nothing, or a row of bytes below block B -/
def Code (w : World) (B : Nat) (ao : Option Addr) (len : Nat) : Prop :=
  B ≤ w.heap.size ∧ len ≤ 1048576 ∧ (len = 0 ∨ ∃ b off, ∃ zs : Nat → Int, ao = some ⟨b, off, none⟩ ∧ b < B ∧ (∀ j, j < len → w.cell? ⟨b, off + j, none⟩ = some (.int .u8 (zs j))) ∧ ∀ j, 0 ≤ zs j ∧ zs j ≤ 255)
/-- block g is a cursor over the code -/
def Cur (w : World) (g : Nat) (ao : Option Addr) (len cap : Nat) : Prop :=
  ∃ (i : Nat) (h : Int), w.heap[g]? = some (.cells #[.slice ao len cap, .int .i64 (i : Int), .int .i64 h] 97 (0, 0)) ∧ i ≤ len
theorem Cur.lt {w : World} {g : Nat} {ao : Option Addr} {len cap : Nat} (h : Cur w g ao len cap) : g < w.heap.size := by
  obtain ⟨i, x, h, _⟩ := h
  exact lt_of_block h
theorem Code.below {w w' : World} {B B' : Nat} {ao : Option Addr} {len : Nat} (h : Code w B ao len) (hb : Below B' w w') (hB : B ≤ B') : Code w' B ao len := by
  refine ⟨Nat.le_trans h.1 hb.size, h.2.1, ?_⟩
  rcases h.2.2 with h0 | ⟨b, off, zs, h1, h2, h3, h4⟩
  · exact .inl h0
  · exact .inr ⟨b, off, zs, h1, h2, fun j hj => (hb.cell (p := ⟨b, off + j, none⟩) (by show b < B'; omega)).trans (h3 j hj), h4⟩
theorem Code.grown {w w' : World} {B g : Nat} {ao : Option Addr} {len : Nat} (h : Code w B ao len) (hg : w.grownBy w' (some g)) (hB : B ≤ g) : Code w' B ao len :=
  h.below (below_grownBy (Below.refl B w) hg h.1 hB) (Nat.le_refl _)
theorem Cur.below {w w' : World} {B g : Nat} {ao : Option Addr} {len cap : Nat} (h : Cur w g ao len cap) (hb : Below B w w') (hg : g < B) : Cur w' g ao len cap := by
  obtain ⟨i, x, h1, h2⟩ := h
  exact ⟨i, x, (hb.block g hg).trans h1, h2⟩

theorem cur_step1 {w : World} {g : Nat} {ao : Option Addr} {len cap i : Nat} {h : Int} (hg : w.heap[g]? = some (.cells #[.slice ao len cap, .int .i64 (i : Int), .int .i64 h] 97 (0, 0))) (H : Int) (n m : Nat) (hi : i ≤ len) :
    Cur (((w.setCell ⟨g, 2, none⟩ (.int .i64 H)).drewN n).drewN m) g ao len cap ∧ w.grownBy (((w.setCell ⟨g, 2, none⟩ (.int .i64 H)).drewN n).drewN m) (some g) := by
  refine ⟨⟨i, H, ?_, hi⟩, grownBy_drewN (grownBy_drewN (grownBy_set (grownBy_refl w _) 2 _) n) m⟩
  have := heap_setCell_same w g 2 _ _ (.int .i64 H) hg
  exact this.trans (by simp)
theorem cur_step2 {w : World} {g : Nat} {ao : Option Addr} {len cap i : Nat} {h : Int} (hg : w.heap[g]? = some (.cells #[.slice ao len cap, .int .i64 (i : Int), .int .i64 h] 97 (0, 0))) (H : Int) (n : Nat) (hi : i + 1 ≤ len) :
    Cur (((w.setCell ⟨g, 2, none⟩ (.int .i64 H)).drewN n).setCell ⟨g, 1, none⟩ (.int .i64 ((i : Int) + 1))) g ao len cap ∧ w.grownBy (((w.setCell ⟨g, 2, none⟩ (.int .i64 H)).drewN n).setCell ⟨g, 1, none⟩ (.int .i64 ((i : Int) + 1))) (some g) := by
  refine ⟨⟨i + 1, H, ?_, hi⟩, grownBy_set (grownBy_drewN (grownBy_set (grownBy_refl w _) 2 _) n) 1 _⟩
  have h1 := heap_setCell_same w g 2 _ _ (.int .i64 H) hg
  have h2 := heap_setCell_same ((w.setCell ⟨g, 2, none⟩ (.int .i64 H)).drewN n) g 1 _ _ (.int .i64 ((i : Int) + 1)) h1
  exact h2.trans (by simp)

set_option maxRecDepth 100000 in
set_option maxHeartbeats 2000000 in
theorem l01Byte_any (B g : Nat) (ao : Option Addr) (len cap : Nat) (w : World) (hcur : Cur w g ao len cap) (hcode : Code w B ao len) (hB : B ≤ g) :
    Calls Tryz.prog 79 #[.pointer (some ⟨g, 0, none⟩)] w fun e w' => ∃ x : Int, e = .returned (.int .i64 x) ∧ 0 ≤ x ∧ x ≤ 255 ∧ Cur w' g ao len cap ∧ w.grownBy w' (some g) := by
  obtain ⟨i, h, hg, hi⟩ := hcur
  have c0 : w.cell? ⟨g, 0, none⟩ = some (.slice ao len cap) := by simp [World.cell?, hg]
  have c1 : w.cell? ⟨g, 1, none⟩ = some (.int .i64 (i : Int)) := by simp [World.cell?, hg]
  have c2 : w.cell? ⟨g, 2, none⟩ = some (.int .i64 h) := by simp [World.cell?, hg]
  have f1 : w.frozen? ⟨g, 1, none⟩ = false := by simp [World.frozen?, hg]
  have f2 : w.frozen? ⟨g, 2, none⟩ = false := by simp [World.frozen?, hg]
  have HG := hide hg
  clear hg
  have hl := hcode.2.1
  by_cases hlt : i < len
  · rcases hcode.2.2 with h0 | ⟨b, off, zs, rfl, hbB, hz, hzs⟩
    · omega
    have hcz : ∀ v, (w.setCell ⟨g, 2, none⟩ v).cell? ⟨b, off + i, none⟩ = some (.int .u8 (zs i)) := fun v => (World.cell?_setCell_other _ ⟨g, 2, none⟩ ⟨b, off + i, none⟩ _ (by intro e; have := congrArg Addr.block e; simp at this; omega)).trans (hz i hlt)
    obtain ⟨hz0, hz1⟩ := hzs i
    have hlt2 : (i : Int) < (len : Int) := by omega
    clear hz hzs hcode
    go_enter Tryz.func79, Tryz.ntmps79
    go_wp2_with fail
    go_quiet (fail)
    go_wp2_with fail
    go_quiet (fail)
    go_wp2_with fail
    go_quiet (fail)
    go_wp2
    go_ret
    have hm := and_mask
    exact ⟨_, rfl, (hm _ 255 (by decide) (by decide)).1, (hm _ 255 (by decide) (by decide)).2, cur_step2 (unhide HG) _ _ (by omega)⟩
  · clear hcode
    go_enter Tryz.func79, Tryz.ntmps79
    go_wp2_with fail
    go_quiet (fail)
    go_wp2_with fail
    go_quiet (fail)
    go_wp2
    go_ret
    have hm := and_mask
    exact ⟨_, rfl, (hm _ 255 (by decide) (by decide)).1, (hm _ 255 (by decide) (by decide)).2, cur_step1 (unhide HG) _ _ _ hi⟩

set_option maxRecDepth 100000 in
set_option maxHeartbeats 1000000 in
theorem l01Below_any (B g : Nat) (ao : Option Addr) (len cap : Nat) (n : Int) (w : World) (hcur : Cur w g ao len cap) (hcode : Code w B ao len) (hB : B ≤ g) (hn0 : 0 < n) (hn1 : n ≤ 9223372036854775807) :
    Calls Tryz.prog 40 #[.pointer (some ⟨g, 0, none⟩), .int .i64 n] w fun e w' => ∃ x : Int, e = .returned (.int .i64 x) ∧ 0 ≤ x ∧ x < n ∧ Cur w' g ao len cap ∧ w.grownBy w' (some g) := by
  have HC := hide hcur
  have HK := hide hcode
  clear hcur hcode
  by_cases h256 : n ≤ 256
  · go_enter Tryz.func40, Tryz.ntmps40
    go_wp2_with fail
    refine (l01Byte_any B g ao len cap _ (unhide HC) (unhide HK) hB).mono ?_
    rintro e w1 ⟨x, rfl, hx0, hx1, hc1, hg1⟩
    have HC1 := hide hc1
    have HG1 := hide hg1
    clear hc1 hg1
    go_wp2
    go_ret
    exact ⟨_, rfl, Int.emod_nonneg _ (by omega), Int.emod_lt_of_pos _ hn0, unhide HC1, unhide HG1⟩
  · go_enter Tryz.func40, Tryz.ntmps40
    go_wp2_with fail
    refine (l01Byte_any B g ao len cap _ (unhide HC) (unhide HK) hB).mono ?_
    rintro e w1 ⟨x1, rfl, hx10, hx11, hc1, hg1⟩
    have HC1 := hide hc1
    have HK1 := hide ((unhide HK).grown hg1 hB)
    have HG1 := hide hg1
    clear hc1 hg1
    go_wp2_with fail
    refine (l01Byte_any B g ao len cap _ (unhide HC1) (unhide HK1) hB).mono ?_
    rintro e w2 ⟨x2, rfl, hx20, hx21, hc2, hg2⟩
    have HC2 := hide hc2
    have HK2 := hide ((unhide HK1).grown hg2 hB)
    have HG2 := hide (grownBy_trans (unhide HG1) hg2)
    clear hc2 hg2
    go_wp2_with fail
    refine (l01Byte_any B g ao len cap _ (unhide HC2) (unhide HK2) hB).mono ?_
    rintro e w3 ⟨x3, rfl, hx30, hx31, hc3, hg3⟩
    have HC3 := hide hc3
    have HK3 := hide ((unhide HK2).grown hg3 hB)
    have HG3 := hide (grownBy_trans (unhide HG2) hg3)
    clear hc3 hg3
    go_wp2_with fail
    refine (l01Byte_any B g ao len cap _ (unhide HC3) (unhide HK3) hB).mono ?_
    rintro e w4 ⟨x4, rfl, hx40, hx41, hc4, hg4⟩
    have HC4 := hide hc4
    have HG4 := hide (grownBy_trans (unhide HG3) hg4)
    clear hc4 hg4
    go_wp2
    go_ret
    exact ⟨_, rfl, Int.emod_nonneg _ (by omega), Int.emod_lt_of_pos _ hn0, unhide HC4, unhide HG4⟩
end Go.Proofs.YtkpmocbfedgfhaaGreat

/-
  The cursor made anew, and what is drawn by it: numbers out of a list, and texts of so many bytes; walks over the dump.
-/
namespace Go.Proofs.YtkpmocbfedgfhaaGreat
open Go.RowKit
set_option linter.unusedVariables false
/-- the cursor at block g stands, the code can be read, and of what w0 held nothing but block g has turned -/
def CSt (w0 : World) (B g : Nat) (ao : Option Addr) (len cap : Nat) (w : World) : Prop := Cur w g ao len cap ∧ Code w B ao len ∧ w0.grownBy w (some g) ∧ B ≤ g
theorem CSt.step {w0 w w' : World} {B g : Nat} {ao : Option Addr} {len cap : Nat} (h : CSt w0 B g ao len cap w) (hc : Cur w' g ao len cap) (hg : w.grownBy w' (some g)) : CSt w0 B g ao len cap w' :=
  ⟨hc, h.2.1.grown hg h.2.2.2, grownBy_trans h.2.2.1 hg, h.2.2.2⟩
theorem CSt.below {w0 w w' : World} {B g : Nat} {ao : Option Addr} {len cap : Nat} (h : CSt w0 B g ao len cap w) (hb : Below w.heap.size w w') : CSt w0 B g ao len cap w' :=
  ⟨h.1.below hb h.1.lt, h.2.1.below hb h.2.1.1, grownBy_below h.2.2.1 hb, h.2.2.2⟩
theorem CSt.alloc {w0 w : World} {B g : Nat} {ao : Option Addr} {len cap : Nat} (h : CSt w0 B g ao len cap w) (o : Obj) : CSt w0 B g ao len cap (w.alloc o) := h.below ((Below.refl _ _).alloc (Nat.le_refl _) o)
theorem CSt.done {w0 w : World} {B g : Nat} {ao : Option Addr} {len cap : Nat} (h : CSt w0 B g ao len cap w) (hg : w0.heap.size ≤ g) : Below w0.heap.size w0 w := below_grownBy (Below.refl _ _) h.2.2.1 (Nat.le_refl _) hg

theorem below_st {w0 : World} {B g : Nat} {ao : Option Addr} {len cap : Nat} (n : Int) (w : World) (h : CSt w0 B g ao len cap w) (hn0 : 0 < n) (hn1 : n ≤ 9223372036854775807) :
    Calls Tryz.prog 40 #[.pointer (some ⟨g, 0, none⟩), .int .i64 n] w fun e w' => ∃ x : Int, e = .returned (.int .i64 x) ∧ 0 ≤ x ∧ x < n ∧ CSt w0 B g ao len cap w' ∧ w.grownBy w' (some g) :=
  (l01Below_any B g ao len cap n w h.1 h.2.1 h.2.2.2 hn0 hn1).mono fun e w' ⟨x, h1, h2, h3, h4, h5⟩ => ⟨x, h1, h2, h3, h.step h4 h5, h5⟩
set_option maxRecDepth 100000 in
set_option maxHeartbeats 1000000 in
theorem new_st (B : Nat) (ao : Option Addr) (len cap : Nat) (w : World) (hcode : Code w B ao len) :
    Calls Tryz.prog 14 #[.slice ao len cap] w fun e w' => e = .returned (.pointer (some ⟨w.heap.size, 0, none⟩)) ∧ CSt w B w.heap.size ao len cap w' := by
  have hl := hcode.2.1
  have HK := hide hcode
  go_enter Tryz.func14, Tryz.ntmps14
  go_wp2
  go_loop [3, 4] (fun v i => ∃ (k : Nat) (h : Int), k ≤ len ∧ i = .int .i64 (k : Int) ∧ v = .int .i64 h ∧ 0 ≤ h ∧ h ≤ 1073741823) (fun _ i => len - (intOf i).toNat)
  case atStart => exact ⟨0, _, Nat.zero_le _, rfl, rfl, by omega, by omega⟩
  case round =>
    obtain ⟨k, h, hk, rfl, rfl, hh0, hh1⟩ := hrel
    by_cases hlt : k < len
    · rcases hcode.2.2 with h0 | ⟨b, off, zs, rfl, hbB, hz, hzs⟩
      · omega
      by_cases h4 : k < 4000
      · have hcz := hz k hlt
        obtain ⟨hz0, hz1⟩ := hzs k
        have hlt2 : (k : Int) < (len : Int) := by omega
        have hm := hide (and_mask (h * 131 + zs k + 7) 1073741823 (by decide) (by decide))
        clear hz hzs hcode
        go_wp2
        go_round
        case rel => exact ⟨k + 1, _, by omega, by go_num, rfl, (unhide hm).1, (unhide hm).2⟩
        case measure => simp [intOf]; omega
      · clear hz hzs hcode
        go_wp2
        go_ret
        refine ⟨rfl, ⟨0, h, ?_, Nat.zero_le _⟩, (unhide HK).below ((Below.refl _ _).alloc (Nat.le_refl _) _) (unhide HK).1, grownBy_below (grownBy_refl w _) ((Below.refl _ _).alloc (Nat.le_refl _) _), (unhide HK).1⟩
        show (w.heap.push _)[w.heap.size]? = _
        simp
    · clear hcode
      go_wp2
      go_ret
      refine ⟨rfl, ⟨0, h, ?_, Nat.zero_le _⟩, (unhide HK).below ((Below.refl _ _).alloc (Nat.le_refl _) _) (unhide HK).1, grownBy_below (grownBy_refl w _) ((Below.refl _ _).alloc (Nat.le_refl _) _), (unhide HK).1⟩
      show (w.heap.push _)[w.heap.size]? = _
      simp

/-- block q holds a list of so many ints -/
def Ints (w : World) (q L : Nat) : Prop := q < w.heap.size ∧ ∀ j, j < L → ∃ z : Int, w.cell? ⟨q, j, none⟩ = some (.int .i64 z) ∧ -9223372036854775808 ≤ z ∧ z ≤ 9223372036854775807
set_option maxRecDepth 100000 in
set_option maxHeartbeats 1000000 in
theorem pick_st {w0 : World} {B g : Nat} {ao : Option Addr} {len cap : Nat} (q L c : Nat) (w : World) (h : CSt w0 B g ao len cap w) (hq : Ints w q L) (hne : q ≠ g) (hL : 0 < L) (hL1 : L ≤ 1000) :
    Calls Tryz.prog 43 #[.pointer (some ⟨g, 0, none⟩), .slice (some ⟨q, 0, none⟩) L c] w fun e w' => ∃ x : Int, e = .returned (.int .i64 x) ∧ -9223372036854775808 ≤ x ∧ x ≤ 9223372036854775807 ∧ CSt w0 B g ao len cap w' := by
  have HS := hide h
  clear h
  go_enter Tryz.func43, Tryz.ntmps43
  go_wp2_with fail
  refine (below_st _ _ (unhide HS) (by omega) (by omega)).mono ?_
  rintro e w1 ⟨x, rfl, hx0, hx1, hs1, hg1⟩
  obtain ⟨X, rfl⟩ := Int.eq_ofNat_of_zero_le hx0
  obtain ⟨z, hz, hz0, hz1⟩ := hq.2 X (by omega)
  have hc : w1.cell? ⟨q, X, none⟩ = some (.int .i64 z) := (World.cell?_of_block (w := w) (a := ⟨q, X, none⟩) (hg1.block q hq.1 (fun e => hne (Option.some.inj e)))).trans hz
  have HS1 := hide hs1
  clear hs1 hg1 hz hq
  go_wp2
  go_ret
  exact ⟨z, rfl, hz0, hz1, unhide HS1⟩
theorem ints_alloc (w : World) (t : TypeId) (zs : List Int) (h : zs.all (fun z => decide (-9223372036854775808 ≤ z) && decide (z ≤ 9223372036854775807)) = true) : Ints (w.alloc (.cells (zs.map (Value.int .i64)).toArray t)) w.heap.size zs.length := by
  refine ⟨by simp, fun j hj => ⟨zs[j], ?_, ?_⟩⟩
  · rw [World.cell?_alloc_mark]; simp [hj]
  · have := List.all_eq_true.1 h zs[j] (List.getElem_mem hj)
    simpa using this
end Go.Proofs.YtkpmocbfedgfhaaGreat
