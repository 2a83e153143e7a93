/-
  Lists of texts that a call gathers, one behind the other.
-/
import Derived.Test.YtfhnjghjibklcaaDoorStrS
namespace Go.Proofs.YtfhnjghjibklcaaDoor
open Go.RowKit
set_option linter.unusedVariables false

abbrev scells (o : List ByteArray) : List Value := o.map Value.string
theorem Tryd.infoS : (Tryd.prog.info? 9).map (fun i => (i.zero, i.size, i.bytes)) = some (some (.string ByteArray.empty), 1, 16) := by kernel_rfl
theorem sown_empty (w : World) : (w.alloc (.cells #[] 9)).ownsRow w.heap.size 9 1 (.slice (some ⟨w.heap.size, 0, none⟩) 0 0) ([] : List ByteArray).length (scells []) :=
  ⟨rfl, .inr ⟨w.heap.size, 0, #[], rfl, Nat.le_refl _, by show (w.heap.push _)[w.heap.size]? = _; simp, Nat.le_refl _, by unfold maxLen; omega, rfl, rfl⟩⟩
theorem srow_step {w wr w1 : World} {B : Nat} {v v' : Value} {o : List ByteArray} {x : ByteArray} {ob : Obj} (hb : Below B w wr) (hown : wr.ownsRow B 9 1 v o.length (scells o))
    (h1 : w1.ownsRow B 9 1 v' (o.length + 1) (scells o ++ [.string x])) (hg : (wr.alloc ob).grownBy w1 v.ownBlock) (hB : B ≤ wr.heap.size) :
    w1.ownsRow B 9 1 v' (o ++ [x]).length (scells (o ++ [x])) ∧ Below B w w1 := by
  refine ⟨by simpa [scells] using h1, (hb.alloc hB ob).grown hg (by simp; omega) ?_⟩
  intro k hk
  rcases hown.2 with ⟨rfl, _⟩ | ⟨g, cap, cur, rfl, hg', _⟩
  · simp [Value.ownBlock] at hk
  · simp [Value.ownBlock] at hk; omega
theorem ss_of_owns {w : World} {B : Nat} {v : Value} {o : List ByteArray} (h : w.ownsRow B 9 1 v o.length (scells o)) (ho : 1 ≤ o.length) : ∃ g cap, v = .slice (some ⟨g, 0, none⟩) o.length cap ∧ SS w g cap o ∧ B ≤ g := by
  rcases h.2 with ⟨_, h0⟩ | ⟨g, cap, cur, rfl, h1, h2, h3, h4, h5, h6⟩
  · omega
  · exact ⟨g, cap, rfl, SS.mk h2 h3 h4 (by simpa using h5) (by simpa using h6), h1⟩

theorem sown_below {w w' : World} {B : Nat} {v : Value} {o : List ByteArray} (h : w.ownsRow B 9 1 v o.length (scells o)) (hb : Below w.heap.size w w') : w'.ownsRow B 9 1 v o.length (scells o) :=
  h.kept (grownBy_below (grownBy_refl w none) hb) (by by_cases e : v.ownBlock = none; exact .inl e; exact .inr e)
/-- v is a list of these texts, in memory of its own from block B on -/
def Texts (B : Nat) (w : World) (v : Value) (ps : List (List UInt8)) : Prop := w.ownsRow B 9 1 v (ps.map bs).length (scells (ps.map bs))
theorem Texts.of {B : Nat} {w : World} {v : Value} {ps : List (List UInt8)} {o : List ByteArray} (h : w.ownsRow B 9 1 v o.length (scells o)) (e : o = ps.map bs) : Texts B w v ps := by subst e; exact h
theorem Texts.below {w w' : World} {B : Nat} {v : Value} {ps : List (List UInt8)} (h : Texts B w v ps) (hb : Below w.heap.size w w') : Texts B w' v ps := sown_below h hb
end Go.Proofs.YtfhnjghjibklcaaDoor
