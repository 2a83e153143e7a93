/-
  One of so many: what the model's l01Once answers at a cursor; a walk over the dump.
-/
import Derived.Test.YthnkbdjombiodaaDoorDraw2
namespace Go.Proofs.YthnkbdjombiodaaDoor
open Go.RowKit
set_option linter.unusedVariables false

set_option maxHeartbeats 400000 in
theorem l01Once_any (B g : Nat) (ao : Option Addr) (len cap : Nat) (n : Int) (w : World) (hcur : Cur w g ao len cap) (hcode : Code w B ao len) (hB : B ≤ g) (hn0 : 0 < n) (hn1 : n ≤ 9223372036854775807) :
    Calls Tryd.prog 43 #[.pointer (some ⟨g, 0, none⟩), .int .i64 n] w fun e w' => ∃ x : Bool, e = .returned (.bool x) ∧ Cur w' g ao len cap ∧ w.grownBy w' (some g) := by
  have HC := hide hcur
  have HK := hide hcode
  clear hcur hcode
  go_enter Tryd.func43, Tryd.ntmps43
  go_wp2_with fail
  refine (l01Below_any B g ao len cap _ _ (unhide HC) (unhide HK) hB hn0 hn1).mono ?_
  rintro e w1 ⟨x, rfl, hx0, hx1, hc1, hg1⟩
  have HC1 := hide hc1
  have HG1 := hide hg1
  clear hc1 hg1
  go_wp2
  go_ret
  exact ⟨_, rfl, unhide HC1, unhide HG1⟩
theorem once_st {w0 : World} {B g : Nat} {ao : Option Addr} {len cap : Nat} (n : Int) (w : World) (h : St w0 B g ao len cap w) (hn0 : 0 < n) (hn1 : n ≤ 9223372036854775807) :
    Calls Tryd.prog 43 #[.pointer (some ⟨g, 0, none⟩), .int .i64 n] w fun e w' => ∃ x : Bool, e = .returned (.bool x) ∧ St w0 B g ao len cap w' :=
  (l01Once_any B g ao len cap n w h.1 h.2.1 h.2.2.2 hn0 hn1).mono fun e w' ⟨x, h1, h4, h5⟩ => ⟨x, h1, h.step h4 h5⟩
end Go.Proofs.YthnkbdjombiodaaDoor
