/-
  Leaves with what they use and what is due: lists of them in memory, and which comes ahead.
-/
import Derived.Test.YtbgamlegiikggaaGreatLessK
import Derived.Test.YtbgamlegiikggaaGreatHeapU
import Derived.Laws.AppendOwn
import Derived.Laws.OwnMore
namespace Go.Proofs.YtbgamlegiikggaaGreat
open Go.RowKit Go.Maps
set_option linter.unusedVariables false

abbrev SE := List UInt8 × P4
def stc (x : SE) : List Value := [.string (bs x.1), .int .i64 x.2.1, .int .i64 x.2.2.1, .int .i64 x.2.2.2.1, .int .i64 x.2.2.2.2]
abbrev stv (x : SE) : Value := .agg #[.string (bs x.1), .int .i64 x.2.1, .int .i64 x.2.2.1, .int .i64 x.2.2.2.1, .int .i64 x.2.2.2.2]
def stcs : List SE → List Value
  | [] => []
  | x :: t => stc x ++ stcs t
theorem stcs_len : ∀ l : List SE, (stcs l).length = l.length * 5
  | [] => rfl
  | x :: t => by rw [stcs, List.length_append, stcs_len t]; simp [stc]; omega
theorem stcs_app : ∀ a b : List SE, stcs (a ++ b) = stcs a ++ stcs b
  | [], b => rfl
  | x :: t, b => by rw [List.cons_append, stcs, stcs_app t b, stcs, List.append_assoc]
theorem stcs_take : ∀ (l : List SE) (k : Nat), stcs (l.take k) = (stcs l).take (k * 5)
  | l, 0 => by simp [stcs]
  | [], k + 1 => by simp [stcs]
  | x :: t, k + 1 => by
    rw [List.take_succ_cons, stcs, stcs, stcs_take t k, show (k + 1) * 5 = (stc x).length + k * 5 by simp [stc]; omega, List.take_length_add_append]
theorem stcs_at : ∀ (l : List SE) (i : Nat) (h : i < l.length), (stcs l)[i * 5]? = some (.string (bs l[i].1)) ∧ (stcs l)[i * 5 + 1]? = some (.int .i64 l[i].2.1) ∧ (stcs l)[i * 5 + 2]? = some (.int .i64 l[i].2.2.1) ∧ (stcs l)[i * 5 + 3]? = some (.int .i64 l[i].2.2.2.1) ∧ (stcs l)[i * 5 + 4]? = some (.int .i64 l[i].2.2.2.2)
  | x :: t, 0, _ => by simp [stcs, stc]
  | x :: t, i + 1, h => by
    have ih := stcs_at t i (by simpa using h)
    have e : ∀ r, (stcs (x :: t))[(i + 1) * 5 + r]? = (stcs t)[i * 5 + r]? := fun r => by
      rw [stcs, List.getElem?_append_right (by simp [stc]; omega)]
      congr 1
      simp [stc]; omega
    have e0 := e 0
    simp only [Nat.add_zero] at e0
    rw [e0, e 1, e 2, e 3, e 4]
    simpa using ih
def stset (xs : List Value) (i : Nat) (x : SE) : List Value := ((((xs.set (i * 5) (.string (bs x.1))).set (i * 5 + 1) (.int .i64 x.2.1)).set (i * 5 + 2) (.int .i64 x.2.2.1)).set (i * 5 + 3) (.int .i64 x.2.2.2.1)).set (i * 5 + 4) (.int .i64 x.2.2.2.2)
theorem stcs_set : ∀ (l : List SE) (i : Nat) (x : SE), stset (stcs l) i x = stcs (l.set i x)
  | [], i, x => by simp [stcs, stset]
  | y :: t, 0, x => by simp [stcs, stc, stset]
  | y :: t, i + 1, x => by
    have ih := stcs_set t i x
    have e : ∀ (s : List Value) r v, (stc y ++ s).set ((i + 1) * 5 + r) v = stc y ++ s.set (i * 5 + r) v := fun s r v => by
      rw [List.set_append, if_neg (by simp [stc]; omega)]
      congr 2
      simp [stc]; omega
    rw [List.set_cons_succ, stcs, stcs, ← ih, stset, stset]
    have e0 := fun s v => e s 0 v
    simp only [Nat.add_zero] at e0
    rw [e0, e, e, e, e]
theorem own_set {w : World} {B g cap n j sz : Nat} {e : TypeId} {xs : List Value} (h : w.ownsRow B e sz (.slice (some ⟨g, 0, none⟩) n cap) n xs) (hj : j < n * sz) (v : Value) : (w.setCell ⟨g, j, none⟩ v).ownsRow B e sz (.slice (some ⟨g, 0, none⟩) n cap) n (xs.set j v) := by
  obtain ⟨h1, h2⟩ := h
  refine ⟨by simpa using h1, ?_⟩
  rcases h2 with ⟨e, _⟩ | ⟨g', cap', cur, e, hb, hc, k1, k2, k3, k4⟩
  · cases e
  · cases e
    refine .inr ⟨g, cap, _, rfl, hb, heap_setCell_same w g j cur _ _ hc, k1, k2, by simpa using k3, ?_⟩
    rw [Array.toList_setIfInBounds, List.take_set, k4]
/-- a leaf is written whole -/
def stW (w : World) (g i : Nat) (x : SE) : World := ((((w.setCell ⟨g, i * 5, none⟩ (.string (bs x.1))).setCell ⟨g, i * 5 + 1, none⟩ (.int .i64 x.2.1)).setCell ⟨g, i * 5 + 2, none⟩ (.int .i64 x.2.2.1)).setCell ⟨g, i * 5 + 3, none⟩ (.int .i64 x.2.2.2.1)).setCell ⟨g, i * 5 + 4, none⟩ (.int .i64 x.2.2.2.2)
theorem own_stset {w : World} {B g cap i : Nat} {l : List SE} (h : w.ownsRow B 68 5 (.slice (some ⟨g, 0, none⟩) l.length cap) l.length (stcs l)) (hi : i < l.length) (x : SE) : (stW w g i x).ownsRow B 68 5 (.slice (some ⟨g, 0, none⟩) l.length cap) l.length (stcs (l.set i x)) := by
  rw [← stcs_set]
  exact own_set (own_set (own_set (own_set (own_set h (by omega) _) (by omega) _) (by omega) _) (by omega) _) (by omega) _
def lessP (p q : P4) : Bool := lessR p.1 p.2.1 p.2.2.1 p.2.2.2 q.1 q.2.1 q.2.2.1 q.2.2.2
/-- which of two leaves comes ahead -/
def aheadS (x y : SE) : Bool := OrdM.ahead lessP Op.bytesLess x y
end Go.Proofs.YtbgamlegiikggaaGreat
