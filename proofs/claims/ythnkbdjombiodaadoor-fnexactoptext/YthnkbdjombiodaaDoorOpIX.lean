/-
  The text of an event of no kind: what the program's OpText answers; a walk over the dump.
-/
import Derived.Test.YthnkbdjombiodaaDoorOpI
namespace Go.Proofs.YthnkbdjombiodaaDoor
open Go.RowKit
set_option linter.unusedVariables false
set_option linter.unusedSimpArgs false

set_option maxRecDepth 100000 in
set_option maxHeartbeats 2000000 in
theorem implOpX_any (o : Opv) (ao : Option Addr) (n c : Nat) (w : World) (h0 : ¬ o.kind = 0) (h1 : ¬ o.kind = 1) (h2 : ¬ o.kind = 2) (h3 : ¬ o.kind = 3) (h4 : ¬ o.kind = 4) (h5 : ¬ o.kind = 5) (h6 : ¬ o.kind = 6) (h7 : ¬ o.kind = 7) :
    Calls Tryd.prog 8 #[opv o ao n c] w fun e w' => e = .returned (.string (bs (opL o))) ∧ Below w.heap.size w w' := by
  have HB0 := hide (OBx.new w o ao n c).2
  have C0 := hide (fun wx => eventOfX_any o ao n c wx h0 h1 h2 h3 h4 h5 h6 h7)
  have HE : opL o = [] := by simp [opL, opWords, h0, h1, h2, h3, h4, h5, h6, h7, Lib.join_nil]
  rw [HE]
  obtain ⟨kind, queue, app, ⟨am, ac, an, ad, ai⟩, cont, node, mem, cpu, conts⟩ := o
  clear HE h0 h1 h2 h3 h4 h5 h6 h7
  go_enter Tryd.func8, Tryd.ntmps8
  go_wp2_with fail
  refine (unhide C0 _).mono ?_
  rintro e w1 ⟨rfl, hb⟩
  have HB1 := hide (below_on (unhide HB0) hb)
  clear hb C0 HB0
  go_wp2
  go_ret
  exact ⟨rfl, unhide HB1⟩
end Go.Proofs.YthnkbdjombiodaaDoor
