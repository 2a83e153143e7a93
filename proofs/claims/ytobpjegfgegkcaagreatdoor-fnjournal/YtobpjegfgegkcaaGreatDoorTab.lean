/-
  The library's table of powers of ten stays as it stands.
-/
import Derived.Test.YtobpjegfgegkcaaGreatDoorPackA
import Derived.Test.YtobpjegfgegkcaaGreatDoorDecI
namespace Go.Proofs.YtobpjegfgegkcaaGreatDoor
open Go.RowKit
set_option linter.unusedVariables false
theorem gTab : Tryz.prog.globalNamed "internal/strconv.uint64pow10" = some 0 := by kernel_rfl
theorem tab_on {w w' : World} (h : Lib.TabIs Tryz.prog w "internal/strconv.uint64pow10" .u64 Lib.pow10Tab) (hb : Below w.heap.size w w') : Lib.TabIs Tryz.prog w' "internal/strconv.uint64pow10" .u64 Lib.pow10Tab :=
  var?_below hb gTab (by
    have := h.cell gTab 0 (by rw [Lib.pow10Tab_length]; decide)
    exact cell_lt this) h
end Go.Proofs.YtobpjegfgegkcaaGreatDoor
