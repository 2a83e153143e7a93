/-
  A whole struct stored cell by cell: what the world is behind it.
-/
import Derived.Test.YtfhnjghjibklcaaDoorKeptV
namespace Go.Proofs.YtfhnjghjibklcaaDoor
open Go.RowKit
set_option linter.unusedVariables false

/-- the cells from i on of block g are written anew, one by one -/
def setsW (w : World) (g : Nat) : Nat → List Value → World
  | _, [] => w
  | i, v :: vs => setsW (w.setCell ⟨g, i, none⟩ v) g (i + 1) vs
theorem sets_keep {P : World → Prop} {g : Nat} (h : ∀ w j v, P w → P (w.setCell ⟨g, j, none⟩ v)) : ∀ (vs : List Value) (i : Nat) (w : World), P w → P (setsW w g i vs)
  | [], _, _, hp => hp
  | v :: vs, i, w, hp => sets_keep h vs (i + 1) _ (h w i v hp)
theorem below_sets {B g : Nat} {w0 w : World} (h : Below B w0 w) (hg : B ≤ g) (i : Nat) (vs : List Value) : Below B w0 (setsW w g i vs) :=
  sets_keep (P := fun wx => Below B w0 wx) (fun wx j v hx => hx.setCell (p := ⟨g, j, none⟩) hg v) vs i w h
theorem Blk.other_sets {w : World} {k g t : Nat} {arr : Array Value} (h : Blk w k arr t) (hk : k ≠ g) (i : Nat) (vs : List Value) : Blk (setsW w g i vs) k arr t :=
  sets_keep (P := fun wx => Blk wx k arr t) (fun wx j v hx => hx.other g j v hk) vs i w h
theorem blk_sets {g t : Nat} : ∀ (vs : List Value) (i : Nat) (w : World) (arr : Array Value), Blk w g arr t → i + vs.length = arr.size → Blk (setsW w g i vs) g (arr.toList.take i ++ vs).toArray t
  | [], i, w, arr, h, hn => by
    have e : (arr.toList.take i ++ []).toArray = arr := by
      rw [List.append_nil, List.take_of_length_le (by simp at hn ⊢; omega)]
    rw [e]; exact h
  | v :: vs, i, w, arr, h, hn => by
    have h1 := h.set i v
    have h2 := blk_sets vs (i + 1) _ _ h1 (by simp at hn ⊢; omega)
    have hi : i < arr.toList.length := by simp at hn ⊢; omega
    have e : ((arr.setIfInBounds i v).toList.take (i + 1) ++ vs) = arr.toList.take i ++ v :: vs := by
      rw [Array.toList_setIfInBounds, List.take_succ_eq_append_getElem (by simpa using hi)]
      rw [List.take_set_of_le (Nat.le_refl _)]
      simp
    rw [e] at h2
    exact h2
theorem Blk.sets {w : World} {g t : Nat} {arr : Array Value} (h : Blk w g arr t) (vs : List Value) (hn : vs.length = arr.size) : Blk (setsW w g 0 vs) g vs.toArray t := by
  have := blk_sets vs 0 w arr h (by omega)
  simpa using this
end Go.Proofs.YtfhnjghjibklcaaDoor
