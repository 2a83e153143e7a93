/-
  Several texts of this claim in one: HeldK, TakeD, InvR, VarB (pack.py put them together); each says in its own remark what is proved.
-/
import Derived.Test.YtbgamlegiikggaaGreatPackB
import Derived.Test.YtbgamlegiikggaaGreatPackA
import Derived.Deep.RegionHeld3
import Derived.Test.YtbgamlegiikggaaGreatPackC
/-
  Words on worlds that calls and stores behind them keep; all that was there stands.
-/
namespace Go.Proofs.YtbgamlegiikggaaGreat
open Go.RowKit
set_option linter.unusedVariables false

/-- what a word on worlds bears -/
structure Holds (S : World → Prop) (w0 : World) (n : Nat) : Prop where
  call : ∀ {wx wy : World}, S wx → Below wx.heap.size wx wy → S wy
  set : ∀ {wx : World} (k j : Nat) (v : Value), S wx → n ≤ k → S (wx.setCell ⟨k, j, none⟩ v)
  size : ∀ {wx : World}, S wx → n ≤ wx.heap.size
  below : ∀ {wx : World}, S wx → Below w0.heap.size w0 wx
theorem Holds.drew {S : World → Prop} {w0 : World} {n : Nat} (h : Holds S w0 n) {wx : World} (hs : S wx) : S wx.drew := h.call hs (Below.refl _ _).drew
theorem Holds.al {S : World → Prop} {w0 : World} {n : Nat} (h : Holds S w0 n) {wx : World} (hs : S wx) (o : Obj) : S (wx.alloc o) := h.call hs (below_al (Below.refl _ _) o)
theorem Holds.set2 {S : World → Prop} {w0 : World} {n : Nat} (h : Holds S w0 n) {wx : World} (hs : S wx) (k : Nat) (a b : Value) (hk : n ≤ k) : S ((wx.setCell ⟨k, 0, none⟩ a).setCell ⟨k, 1, none⟩ b) := h.set k 1 b (h.set k 0 a hs hk) hk
/-- all that was there stands -/
def Kp (w1 wx : World) : Prop := Below w1.heap.size w1 wx
theorem kp_holds (w1 : World) : Holds (Kp w1) w1 w1.heap.size where
  call := fun h hb => below_on h hb
  set := fun k j v h hk => below_sc h _ _ _ hk
  size := fun h => h.size
  below := fun h => h
theorem Kp.cell {w1 wx : World} (h : Kp w1 wx) {b j : Nat} {v : Value} (hc : w1.cell? ⟨b, j, none⟩ = some v) : wx.cell? ⟨b, j, none⟩ = some v := (Below.cell h (p := ⟨b, j, none⟩) (cell_lt hc)).trans hc
theorem Kp.new (w1 : World) : Kp w1 w1 := Below.refl _ _
end Go.Proofs.YtbgamlegiikggaaGreat

/-
  An operation of a region that draws its order, taken first, where it puts its value said by its number.
-/
namespace Go.Proofs.YtbgamlegiikggaaGreat
open Go.RowKit
theorem takeD {P : Program} {ops : Array Oper} {Q : Exit → Act → World → Prop} {md : Region.Mode} {S : World → Prop} {i : Nat} {oi : Oper} {v : Value} {d : Option Tmp} {fuel : Nat} {listed : Array Bool} {a : Act} {w : World} (hi : ops[i]? = some oi) (hd : oi.dst = d)
    (hs : Region.noSelect ops = true) (hf : Region.free md ops listed i = true) (hr : (Region.ready md ops listed).contains i = true)
    (hQ : ∀ c a w, Q (.panic c) (a.put d v) w → Q (.panic c) a w) (hy : YieldsIf P ops S oi v a) (hS : S w)
    (h : wpAnyH P md ops Q S fuel (listed.setIfInBounds i true) (a.put d v) w) : wpAnyH P md ops Q S (fuel + 1) listed a w := by
  subst hd
  exact wpAnyH_take hi hs hf hr hQ hy hS h
end Go.Proofs.YtbgamlegiikggaaGreat

/-
  A region that draws its order, by one word on what is done, what stands and the world, which every operation that may come up keeps.
-/
namespace Go.Proofs.YtbgamlegiikggaaGreat
open Go.RowKit
set_option linter.unusedVariables false
/-- each of the operations comes up next; behind it S holds, and the word -/
def AllReadyI (P : Program) (md : Region.Mode) (ops : Array Oper) (Q : Exit → Act → World → Prop) (S : World → Prop) (I : Nat → Array Bool → Act → World → Prop) (n : Nat) (listed : Array Bool) (a : Act) (w : World) (rs : List Nat) : Prop :=
  ∀ i ∈ rs, wpOp P ops Q i (fun a' w' => S w' ∧ I n (listed.setIfInBounds i true) a' w') a w
theorem AllReadyI.nil {P : Program} {md : Region.Mode} {ops : Array Oper} {Q : Exit → Act → World → Prop} {S : World → Prop} {I : Nat → Array Bool → Act → World → Prop} {n : Nat} {listed : Array Bool} {a : Act} {w : World} : AllReadyI P md ops Q S I n listed a w [] := fun _ h => by cases h
theorem AllReadyI.cons {P : Program} {md : Region.Mode} {ops : Array Oper} {Q : Exit → Act → World → Prop} {S : World → Prop} {I : Nat → Array Bool → Act → World → Prop} {n : Nat} {listed : Array Bool} {a : Act} {w : World} {i : Nat} {o : Oper} {rs : List Nat} (ho : ops[i]? = some o)
    (h : ∀ K' : Act → World → Prop, Shut (∀ a w, S w → I n (listed.setIfInBounds i true) a w → K' a w) → if Region.wanted o (yielded ops a.tmps) = true then Oper.wp P o a w K' Q else K' (a.put o.dst undef) w)
    (hs : AllReadyI P md ops Q S I n listed a w rs) : AllReadyI P md ops Q S I n listed a w (i :: rs) := fun j hj => by
  rcases List.mem_cons.1 hj with rfl | hj
  · exact wpOp_step ho (fun K' hK => h K' (fun a w hS hW => hK a w ⟨hS, hW⟩))
  · exact hs j hj
theorem wpAnyH_inv {P : Program} {ops : Array Oper} {Q : Exit → Act → World → Prop} {md : Region.Mode} {S : World → Prop} (I : Nat → Array Bool → Act → World → Prop)
    (step : ∀ n listed a w, I (n + 1) listed a w → Region.ready md ops listed ≠ [] ∧ AllReadyI P md ops Q S I n listed a w (Region.ready md ops listed))
    (fin : ∀ listed a w, I 0 listed a w → Region.ready md ops listed = [] ∧ Q .normal a w) :
    ∀ n listed a w, I n listed a w → wpAnyH P md ops Q S n listed a w
  | 0, listed, a, w, h => fin listed a w h
  | n + 1, listed, a, w, h => ⟨fun e => absurd e (step n listed a w h).1, fun i hi => wpOp_mono (fun a' w' k => ⟨k.1, wpAnyH_inv I step fin n _ a' w' k.2⟩) ((step n listed a w h).2 i hi)⟩
theorem ready_step {P : Program} {ops : Array Oper} {Q : Exit → Act → World → Prop} {md : Region.Mode} {S : World → Prop} {I : Nat → Array Bool → Act → World → Prop} {n : Nat} {listed : Array Bool} {a : Act} {w : World} {rs : List Nat} (hr : Region.ready md ops listed = rs) (hne : rs ≠ [])
    (h : AllReadyI P md ops Q S I n listed a w rs) : Region.ready md ops listed ≠ [] ∧ AllReadyI P md ops Q S I n listed a w (Region.ready md ops listed) := by
  subst hr
  exact ⟨hne, h⟩
end Go.Proofs.YtbgamlegiikggaaGreat

/-
  A variable that holds an amount, made since a world.
-/
namespace Go.Proofs.YtbgamlegiikggaaGreat
open Go.RowKit
set_option linter.unusedVariables false

/-- a variable made since w1 -/
def VB (w1 w : World) (g : Nat) (x y : Int) : Prop := w1.heap.size ≤ g ∧ Var w 64 g x y
theorem VB.below {w1 w w' : World} {g : Nat} {x y : Int} (h : VB w1 w g x y) (hb : Below w.heap.size w w') : VB w1 w' g x y := ⟨h.1, h.2.below hb⟩
theorem VB.al {w1 w : World} {g : Nat} {x y : Int} (h : VB w1 w g x y) (o : Obj) : VB w1 (w.alloc o) g x y := ⟨h.1, h.2.al o⟩
theorem VB.ne {w1 w : World} {g : Nat} {x y : Int} (h : VB w1 w g x y) : g ≠ w.heap.size := Nat.ne_of_lt h.2.lt
theorem vb_new {w1 w : World} (h : Below w1.heap.size w1 w) : VB w1 (w.alloc (.cells #[.int .i64 0, .int .i64 0] 64)) w.heap.size 0 0 := ⟨h.size, var_new w _ 0 0⟩
theorem VB.set {w1 w : World} {g : Nat} {a b : Int} (h : VB w1 w g a b) (x y : Int) : VB w1 ((w.setCell ⟨g, 0, none⟩ (.int .i64 x)).setCell ⟨g, 1, none⟩ (.int .i64 y)) g x y := ⟨h.1, h.2.set x y⟩
theorem VB.off {w1 w : World} {g k : Nat} {a b : Int} (h : VB w1 w g a b) (hn : g ≠ k) {u v : Value} : VB w1 ((w.setCell ⟨k, 0, none⟩ u).setCell ⟨k, 1, none⟩ v) g a b := ⟨h.1, (h.2.other k 0 u hn).other k 1 v hn⟩
theorem VB.kp {w1 w : World} {g : Nat} {a b : Int} (h : VB w1 w g a b) (hk : Below w1.heap.size w1 w) {u v : Value} : Below w1.heap.size w1 ((w.setCell ⟨g, 0, none⟩ u).setCell ⟨g, 1, none⟩ v) := below_sc (below_sc hk _ _ _ h.1) _ _ _ h.1
end Go.Proofs.YtbgamlegiikggaaGreat
