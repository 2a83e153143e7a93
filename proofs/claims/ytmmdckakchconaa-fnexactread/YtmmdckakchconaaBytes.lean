/-
  Rows of bytes that a call has made, and their text.
-/
import Derived.Test.YtmmdckakchconaaBase
import Derived.Laws.IdiomStrings
import Derived.Lib.ItoaMem
namespace Go.Proofs.Ytmmdckakchconaa
open Go.RowKit
set_option linter.unusedVariables false
theorem byteOf (x : Nat) (h : x < 256) : ((UInt8.ofNat x).toNat : Int) = (x : Int) := by rw [UInt8.toNat_ofNat']; omega
abbrev cells (l : List UInt8) : List Value := l.map (fun b => Value.int .u8 (b.toNat : Int))
theorem cells_snoc (l : List UInt8) (c : UInt8) (x : Int) (h : (c.toNat : Int) = x) : cells l ++ [.int .u8 x] = cells (l ++ [c]) := by simp [cells, h]

theorem Try.info5 : (Try.prog.info? 5).map (fun i => (i.zero, i.size, i.bytes)) = some (some (.int .u8 0), 1, 1) := by kernel_rfl

theorem own_empty (w : World) (t : TypeId) : (w.alloc (.cells #[] t)).ownsRow w.heap.size t 1 (.slice (some ⟨w.heap.size, 0, none⟩) 0 0) ([] : List UInt8).length (cells []) :=
  ⟨rfl, .inr ⟨w.heap.size, 0, #[], rfl, Nat.le_refl _, by show (w.heap.push _)[w.heap.size]? = _; simp, Nat.le_refl _, by unfold maxLen; omega, rfl, rfl⟩⟩
/-- one byte more: what is owned, and what lies below, behind the append -/
theorem row_step {w wr w1 : World} {B : Nat} {t : TypeId} {v v' : Value} {l : List UInt8} {c : UInt8} {x : Int} {o : Obj} (hb : Below B w wr) (hown : wr.ownsRow B t 1 v l.length (cells l))
    (h1 : w1.ownsRow B t 1 v' (l.length + 1) (cells l ++ [.int .u8 x])) (hg : (wr.alloc o).grownBy w1 v.ownBlock) (hc : (c.toNat : Int) = x) (hB : B ≤ wr.heap.size) :
    w1.ownsRow B t 1 v' (l ++ [c]).length (cells (l ++ [c])) ∧ Below B w w1 := by
  refine ⟨by rw [cells_snoc l c x hc] at h1; simpa using h1, (hb.alloc hB o).grown hg (by simp; omega) ?_⟩
  intro k hk
  rcases hown.2 with ⟨rfl, _⟩ | ⟨g, cap, cur, rfl, hg', _⟩
  · simp [Value.ownBlock] at hk
  · simp [Value.ownBlock] at hk; omega
/-- the text of the bytes that are owned -/
theorem own_str {w1 : World} {B : Nat} {v : Value} {l : List UInt8} (h : w1.ownsRow B 5 1 v l.length (cells l)) (hl : 1 ≤ l.length) :
    (convert 65 9 v).run Try.prog w1 = .ok (.string (bs l)) w1 := by
  rcases h.2 with ⟨_, h0⟩ | ⟨g, cap, cur, rfl, _⟩
  · omega
  · exact run_convert_bytes_back w1 65 9 5 ⟨g, 0, none⟩ cap l Try.underlying65 Try.underlying5 Try.underlying9 (fun j hj => by
      have := h.cellAt j (by omega)
      rw [Lib.add_plain, Nat.zero_add, this]
      simp [cells, hj])

end Go.Proofs.Ytmmdckakchconaa
