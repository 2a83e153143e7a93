/-
  What a leaf lacks: in plain words.
-/
import Derived.Test.YtgfdfaaemhdcaaaGreatOverM
import Derived.Test.YtgfdfaaemhdcaaaGreatOkA
namespace Go.Proofs.YtgfdfaaemhdcaaaGreat
open Go.RowKit
set_option linter.unusedVariables false

/-- an ask beside what others want -/
def wantOne (p : Int × Int) (a : Ask) : Int × Int := if askOk a = true then (min 1000000000 (p.1 + a.mem * a.count), min 1000000000 (p.2 + a.cpu * a.count)) else p
def wantAsks : List Ask → Int × Int → Int × Int
  | [], p => p
  | a :: t, p => wantAsks t (wantOne p a)
def wantApps (nm : List UInt8) : List Appl → Int × Int → Int × Int
  | [], p => p
  | a :: t, p => wantApps nm t (if a.queue = nm then wantAsks a.asks p else p)
def wantV (s : St) (nm : List UInt8) : Int × Int := wantApps nm s.apps (0, 0)
theorem wantAsks_step {l : List Ask} {k : Nat} (h : k < l.length) (p : Int × Int) : wantAsks (l.drop k) p = wantAsks (l.drop (k + 1)) (wantOne p l[k]) := by
  rw [List.drop_eq_getElem_cons h, wantAsks]
theorem wantAsks_end {l : List Ask} {k : Nat} (h : l.length ≤ k) (p : Int × Int) : wantAsks (l.drop k) p = p := by
  rw [List.drop_of_length_le h]; rfl
theorem wantApps_step {nm : List UInt8} {l : List Appl} {k : Nat} (h : k < l.length) (p : Int × Int) : wantApps nm (l.drop k) p = wantApps nm (l.drop (k + 1)) (if l[k].queue = nm then wantAsks l[k].asks p else p) := by
  rw [List.drop_eq_getElem_cons h, wantApps]
theorem wantApps_end {nm : List UInt8} {l : List Appl} {k : Nat} (h : l.length ≤ k) (p : Int × Int) : wantApps nm (l.drop k) p = p := by
  rw [List.drop_of_length_le h]; rfl
theorem askOk_bd {a : Ask} (h : askOk a = true) : 0 ≤ a.mem ∧ a.mem ≤ 1000000000 ∧ 0 ≤ a.cpu ∧ a.cpu ≤ 1000000000 ∧ 1 ≤ a.count ∧ a.count ≤ 1000 := by
  simp only [askOk, someR, resOk, inB, Bool.and_eq_true, decide_eq_true_eq] at h
  omega
theorem wantOne_yes {x y : Int} {a : Ask} (h : askOk a = true) : wantOne (x, y) a = (min 1000000000 (x + a.mem * a.count), min 1000000000 (y + a.cpu * a.count)) := by rw [wantOne, if_pos h]
theorem wantOne_no {p : Int × Int} {a : Ask} (h : askOk a = false) : wantOne p a = p := by rw [wantOne, if_neg (by simp [h])]
theorem ask_bd {a : Ask} {x y : Int} (h : askOk a = true) (hr : resOk x y = true) : 0 ≤ a.mem * a.count ∧ a.mem * a.count ≤ 1000000000000 ∧ 0 ≤ a.cpu * a.count ∧ a.cpu * a.count ≤ 1000000000000 ∧ 0 ≤ x ∧ x ≤ 1000000000 ∧ 0 ≤ y ∧ y ≤ 1000000000 := by
  obtain ⟨a0, a1, b0, b1, c0, c1⟩ := askOk_bd h
  have e1 := mul_bd a0 a1 (show 0 ≤ a.count by omega) c1
  have e2 := mul_bd b0 b1 (show 0 ≤ a.count by omega) c1
  have e3 := resOk_bd hr
  omega
theorem wantOne_ok {p : Int × Int} (a : Ask) (h : resOk p.1 p.2 = true) : resOk (wantOne p a).1 (wantOne p a).2 = true := by
  obtain ⟨x, y⟩ := p
  cases ha : askOk a
  · rw [wantOne_no ha]; exact h
  · rw [wantOne_yes ha]
    have := ask_bd ha h
    simp only [resOk, inB, Bool.and_eq_true, decide_eq_true_eq]
    omega
theorem wantAsks_ok : ∀ (l : List Ask) (p : Int × Int), resOk p.1 p.2 = true → resOk (wantAsks l p).1 (wantAsks l p).2 = true
  | [], p, h => h
  | a :: t, p, h => wantAsks_ok t _ (wantOne_ok a h)
theorem wantApps_ok (nm : List UInt8) : ∀ (l : List Appl) (p : Int × Int), resOk p.1 p.2 = true → resOk (wantApps nm l p).1 (wantApps nm l p).2 = true
  | [], p, h => h
  | a :: t, p, h => by
    rw [wantApps]
    refine wantApps_ok nm t _ ?_
    split
    · exact wantAsks_ok _ _ h
    · exact h
theorem want_ok (s : St) (nm : List UInt8) : resOk (wantV s nm).1 (wantV s nm).2 = true := wantApps_ok _ _ _ resOk_zero
def lack1 (d u w : Int) : Int := min (max (d - u) 0) w
def lackV (s : St) (nm : List UInt8) : Int × Int := if leaf s.qs nm = true then (lack1 (dueV s nm).1 (usedByV s nm).1 (wantV s nm).1, lack1 (dueV s nm).2 (usedByV s nm).2 (wantV s nm).2) else (0, 0)
theorem lack_more {d u w : Int} (h : u < d) : lack1 d u w = min (d - u) w := by simp only [lack1]; omega
theorem lack_less {d u w : Int} (h : ¬ u < d) (hw : 0 ≤ w) : lack1 d u w = 0 := by simp only [lack1]; omega
/-- a variable made since w1 -/
def VB (w1 w : World) (g : Nat) (x y : Int) : Prop := w1.heap.size ≤ g ∧ Var w 40 g x y
theorem VB.below {w1 w w' : World} {g : Nat} {x y : Int} (h : VB w1 w g x y) (hb : Below w.heap.size w w') : VB w1 w' g x y := ⟨h.1, h.2.below hb⟩
theorem VB.al {w1 w : World} {g : Nat} {x y : Int} (h : VB w1 w g x y) (o : Obj) : VB w1 (w.alloc o) g x y := ⟨h.1, h.2.al o⟩
theorem VB.ne {w1 w : World} {g : Nat} {x y : Int} (h : VB w1 w g x y) : g ≠ w.heap.size := Nat.ne_of_lt h.2.lt
theorem vb_new {w1 w : World} (h : Below w1.heap.size w1 w) : VB w1 (w.alloc (.cells #[.int .i64 0, .int .i64 0] 40)) w.heap.size 0 0 := ⟨h.size, var_new w _ 0 0⟩
theorem VB.set {w1 w : World} {g : Nat} {a b : Int} (h : VB w1 w g a b) (x y : Int) : VB w1 ((w.setCell ⟨g, 0, none⟩ (.int .i64 x)).setCell ⟨g, 1, none⟩ (.int .i64 y)) g x y := ⟨h.1, h.2.set x y⟩
theorem VB.off {w1 w : World} {g k : Nat} {a b : Int} (h : VB w1 w g a b) (hn : g ≠ k) {u v : Value} : VB w1 ((w.setCell ⟨k, 0, none⟩ u).setCell ⟨k, 1, none⟩ v) g a b := ⟨h.1, (h.2.other k 0 u hn).other k 1 v hn⟩
theorem VB.kp {w1 w : World} {g : Nat} {a b : Int} (h : VB w1 w g a b) (hk : Below w1.heap.size w1 w) {u v : Value} : Below w1.heap.size w1 ((w.setCell ⟨g, 0, none⟩ u).setCell ⟨g, 1, none⟩ v) := below_sc (below_sc hk _ _ _ h.1) _ _ _ h.1
/-- three variables stand; nothing of w has turned -/
def LS (w : World) (g5 g6 g7 : Nat) (ux uy dx dy nx ny : Int) (wx : World) : Prop := Var wx 40 g5 ux uy ∧ Var wx 40 g6 dx dy ∧ Var wx 40 g7 nx ny ∧ Below w.heap.size w wx
end Go.Proofs.YtgfdfaaemhdcaaaGreat
