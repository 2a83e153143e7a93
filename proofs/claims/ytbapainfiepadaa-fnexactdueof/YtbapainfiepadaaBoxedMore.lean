/-
  One amount that came in, boxed: more of it.
-/
import Derived.Test.YtbapainfiepadaaResV
namespace Go.Proofs.Ytbapainfiepadaa
open Go.RowKit
set_option linter.unusedVariables false

theorem Boxed.al {w0 w1 : World} {t : TypeId} {a b : Int} (h : Boxed w0 t a b w1) (o : Obj) : Boxed w0 t a b (w1.alloc o) := h.call (below_al (Below.refl _ _) o)
theorem Boxed.set {w0 w1 : World} {t : TypeId} {a b : Int} (h : Boxed w0 t a b w1) (k j : Nat) (v : Value) (hk : w0.heap.size < k) : Boxed w0 t a b (w1.setCell ⟨k, j, none⟩ v) := ⟨h.1.other k j v (by omega), below_sc h.2 _ _ _ (by omega)⟩
theorem Boxed.lt {w0 w1 : World} {t : TypeId} {a b : Int} (h : Boxed w0 t a b w1) : w0.heap.size < w1.heap.size := h.1.lt
end Go.Proofs.Ytbapainfiepadaa
