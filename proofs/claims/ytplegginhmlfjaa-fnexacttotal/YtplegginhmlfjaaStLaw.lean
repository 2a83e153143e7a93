/-
  What stands while a law over a state is walked.
-/
import Derived.Test.YtplegginhmlfjaaStTo
import Derived.Test.YtplegginhmlfjaaStEq
namespace Go.Proofs.Ytplegginhmlfjaa
open Go.RowKit
set_option linter.unusedVariables false

/-- the state that came in stands in its box; nothing of w has turned -/
def InBox (w : World) (x : Sls) (s : St) (wx : World) : Prop := Blk wx w.heap.size (svc x s) 27 ∧ Below w.heap.size w wx
theorem InBox.new (w : World) (x : Sls) (s : St) : InBox w x s (w.alloc (.cells (svc x s) 27)) := ⟨blk_new _ _ _, below_al (Below.refl _ _) _⟩
theorem InBox.call {w wx wy : World} {x : Sls} {s : St} (h : InBox w x s wx) (hb : Below wx.heap.size wx wy) : InBox w x s wy := ⟨h.1.below hb, below_on h.2 hb⟩
theorem InBox.drew {w wx : World} {x : Sls} {s : St} (h : InBox w x s wx) : InBox w x s wx.drew := h.call (Below.refl _ _).drew
theorem InBox.al {w wx : World} {x : Sls} {s : St} (h : InBox w x s wx) (o : Obj) : InBox w x s (wx.alloc o) := h.call (below_al (Below.refl _ _) o)
theorem InBox.read (w : World) (x : Sls) (s : St) : ∀ wx, InBox w x s wx → wx.cell? ⟨w.heap.size, 0, none⟩ = some (.slice x.qa x.ql x.qc) ∧ wx.cell? ⟨w.heap.size, 1, none⟩ = some (.int .i64 s.clock) ∧ wx.cell? ⟨w.heap.size, 2, none⟩ = some (.int .i64 s.epoch) ∧ wx.cell? ⟨w.heap.size, 3, none⟩ = some (.int .i64 s.next) ∧ wx.cell? ⟨w.heap.size, 4, none⟩ = some (.int .i64 s.serial) ∧ wx.cell? ⟨w.heap.size, 5, none⟩ = some (.slice x.aa x.al x.ac) ∧ wx.cell? ⟨w.heap.size, 6, none⟩ = some (.slice x.ma x.ml x.mc) ∧ wx.cell? ⟨w.heap.size, 7, none⟩ = some (.slice x.ca x.cl x.cc) :=
  fun wx h => ⟨h.1.at 0, h.1.at 1, h.1.at 2, h.1.at 3, h.1.at 4, h.1.at 5, h.1.at 6, h.1.at 7⟩
/-- besides it the copy that the program was handed, in a variable -/
def InTwo (w : World) (x : Sls) (s : St) (g g1 g2 g3 g4 : Nat) (wx : World) : Prop := InBox w x s wx ∧ Blk wx g (svc (own4 g1 g2 g3 g4 x.ql x.al x.ml x.cl) s) 35 ∧ SOwn4 wx g1 g2 g3 g4 x.ql x.al x.ml x.cl s
theorem InTwo.call {w wx wy : World} {x : Sls} {s : St} {g g1 g2 g3 g4 : Nat} (h : InTwo w x s g g1 g2 g3 g4 wx) (hb : Below wx.heap.size wx wy) : InTwo w x s g g1 g2 g3 g4 wy := ⟨h.1.call hb, h.2.1.below hb, h.2.2.below hb⟩
theorem InTwo.drew {w wx : World} {x : Sls} {s : St} {g g1 g2 g3 g4 : Nat} (h : InTwo w x s g g1 g2 g3 g4 wx) : InTwo w x s g g1 g2 g3 g4 wx.drew := h.call (Below.refl _ _).drew
theorem InTwo.al {w wx : World} {x : Sls} {s : St} {g g1 g2 g3 g4 : Nat} (h : InTwo w x s g g1 g2 g3 g4 wx) (o : Obj) : InTwo w x s g g1 g2 g3 g4 (wx.alloc o) := h.call (below_al (Below.refl _ _) o)
theorem InTwo.read (w : World) (x : Sls) (s : St) (g g1 g2 g3 g4 : Nat) : ∀ wx, InTwo w x s g g1 g2 g3 g4 wx → (wx.cell? ⟨w.heap.size, 0, none⟩ = some (.slice x.qa x.ql x.qc) ∧ wx.cell? ⟨w.heap.size, 1, none⟩ = some (.int .i64 s.clock) ∧ wx.cell? ⟨w.heap.size, 2, none⟩ = some (.int .i64 s.epoch) ∧ wx.cell? ⟨w.heap.size, 3, none⟩ = some (.int .i64 s.next) ∧ wx.cell? ⟨w.heap.size, 4, none⟩ = some (.int .i64 s.serial) ∧ wx.cell? ⟨w.heap.size, 5, none⟩ = some (.slice x.aa x.al x.ac) ∧ wx.cell? ⟨w.heap.size, 6, none⟩ = some (.slice x.ma x.ml x.mc) ∧ wx.cell? ⟨w.heap.size, 7, none⟩ = some (.slice x.ca x.cl x.cc))
    ∧ wx.cell? ⟨g, 0, none⟩ = some (.slice (some ⟨g1, 0, none⟩) x.ql x.ql) ∧ wx.cell? ⟨g, 1, none⟩ = some (.int .i64 s.clock) ∧ wx.cell? ⟨g, 2, none⟩ = some (.int .i64 s.epoch) ∧ wx.cell? ⟨g, 3, none⟩ = some (.int .i64 s.next) ∧ wx.cell? ⟨g, 4, none⟩ = some (.int .i64 s.serial) ∧ wx.cell? ⟨g, 5, none⟩ = some (.slice (some ⟨g2, 0, none⟩) x.al x.al) ∧ wx.cell? ⟨g, 6, none⟩ = some (.slice (some ⟨g3, 0, none⟩) x.ml x.ml) ∧ wx.cell? ⟨g, 7, none⟩ = some (.slice (some ⟨g4, 0, none⟩) x.cl x.cl) :=
  fun wx h => ⟨InBox.read w x s wx h.1, h.2.1.at 0, h.2.1.at 1, h.2.1.at 2, h.2.1.at 3, h.2.1.at 4, h.2.1.at 5, h.2.1.at 6, h.2.1.at 7⟩
end Go.Proofs.Ytplegginhmlfjaa
