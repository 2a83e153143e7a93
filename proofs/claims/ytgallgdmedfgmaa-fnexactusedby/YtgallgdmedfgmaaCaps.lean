/-
  What all machines can: the list of their Caps; the worlds behind a state's box.
-/
import Derived.Test.YtgallgdmedfgmaaROwn
import Derived.Test.YtgallgdmedfgmaaStAll
namespace Go.Proofs.Ytgallgdmedfgmaa
open Go.RowKit
set_option linter.unusedVariables false

def capsOf (l : List Mac) : List (Int × Int) := l.map (fun m => (m.mem, m.cpu))
theorem capsOf_step {l : List Mac} {k : Nat} (h : k < l.length) : capsOf (l.take (k + 1)) = capsOf (l.take k) ++ [(l[k].mem, l[k].cpu)] := by
  rw [List.take_succ_eq_append_getElem h, capsOf, List.map_append]; rfl

/-- the amounts of those containers that count -/
def usedL (p : Con → Bool) (l : List Con) : List (Int × Int) := (l.filter p).map (fun c => (c.mem, c.cpu))
theorem usedL_step {p : Con → Bool} {l : List Con} {k : Nat} (h : k < l.length) : usedL p (l.take (k + 1)) = if p l[k] = true then usedL p (l.take k) ++ [(l[k].mem, l[k].cpu)] else usedL p (l.take k) := by
  rw [List.take_succ_eq_append_getElem h]
  simp only [usedL, List.filter_append, List.map_append]
  by_cases hp : p l[k] = true <;> simp [hp]
/-- behind the box of a state and the result's variable -/
def capW (w : World) (c : Array Value) : World := (w.alloc (.cells c 46)).alloc (.cells #[.int .i64 0, .int .i64 0] 28)
theorem capW_size (w : World) (c : Array Value) : (capW w c).heap.size = w.heap.size + 1 + 1 := by simp only [capW, al_size]
theorem capW_below (w : World) (c : Array Value) : Below w.heap.size w (capW w c) := below_al (below_al (Below.refl _ w) _) _
theorem capW_var (w : World) (c : Array Value) : Var (capW w c) 28 (w.heap.size + 1) 0 0 := by
  have := var_new (w.alloc (.cells c 46)) 28 0 0
  rwa [al_size] at this
abbrev macobj (m : Mac) : Obj := .cells #[.string (bs m.name), .int .i64 m.mem, .int .i64 m.cpu, .int .i64 m.seen] 71

/-- behind the box of a state -/
def boxW (w : World) (c : Array Value) : World := w.alloc (.cells c 46)
theorem boxW_size (w : World) (c : Array Value) : (boxW w c).heap.size = w.heap.size + 1 := by simp only [boxW, al_size]
theorem boxW_below (w : World) (c : Array Value) : Below w.heap.size w (boxW w c) := below_al (Below.refl _ w) _
theorem boxW_blk (w : World) (c : Array Value) : Blk (boxW w c) w.heap.size c 46 := blk_new w c _
end Go.Proofs.Ytgallgdmedfgmaa
