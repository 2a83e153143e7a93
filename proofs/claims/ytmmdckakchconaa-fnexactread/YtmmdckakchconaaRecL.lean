/-
  A deferred closure's region that recovers: one operation at a time.
-/
import Derived.Test.YtmmdckakchconaaBase
import Derived.Defers
import Derived.Recover
namespace Go.Proofs.Ytmmdckakchconaa
open Go.RowKit
set_option linter.unusedVariables false
section
variable {P : Program} {ops : Array Oper} {Q : Exit → Act → List Frame → World → Prop} {a : Act} {cs cs' : List Frame} {w w' : World} {i : Nat} {rest : List Nat} {o : Oper} {v : Value} {d : Option Tmp}
theorem opsS_val (ho : ops[i]? = some o) (hd : o.dst = d) (hw : Region.wanted o (yielded ops a.tmps) = true) (hr : (execOp a.eval o).run P w = .ok (.value v) w') (h : wpOpsS P ops Q rest (a.put d v) cs w') : wpOpsS P ops Q (i :: rest) a cs w := by
  subst hd
  simp only [wpOpsS, ho, hw, if_true, hr, Oper.upon]
  exact h
theorem opsS_skip (ho : ops[i]? = some o) (hd : o.dst = d) (hw : Region.wanted o (yielded ops a.tmps) = true) (hr : (execOp a.eval o).run P w = .ok .skip w') (h : wpOpsS P ops Q rest (a.put d undef) cs w') : wpOpsS P ops Q (i :: rest) a cs w := by
  subst hd
  simp only [wpOpsS, ho, hw, if_true, hr, Oper.upon]
  exact h
theorem opsS_rec (ho : ops[i]? = some o) (hd : o.dst = d) (hw : Region.wanted o (yielded ops a.tmps) = true) (hr : (execOp a.eval o).run P w = .ok .recover w') (hq : recoverD cs = some (v, cs')) (h : wpOpsS P ops Q rest (a.put d v) cs' w') : wpOpsS P ops Q (i :: rest) a cs w := by
  subst hd
  simp only [wpOpsS, ho, hw, if_true, hr, hq]
  exact h
theorem opsS_rec0 (ho : ops[i]? = some o) (hd : o.dst = d) (hw : Region.wanted o (yielded ops a.tmps) = true) (hr : (execOp a.eval o).run P w = .ok .recover w') (hq : recoverD cs = none) (h : wpOpsS P ops Q rest (a.put d .nilIface) cs w') : wpOpsS P ops Q (i :: rest) a cs w := by
  subst hd
  simp only [wpOpsS, ho, hw, if_true, hr, hq]
  exact h
theorem opsS_call {f : FuncId} {args : Array Value} {R : Ending → World → Prop} (ho : ops[i]? = some o) (hd : o.dst = d) (hw : Region.wanted o (yielded ops a.tmps) = true) (hr : (execOp a.eval o).run P w = .ok (.enter f args) w') (hc : Calls P f args w' R)
    (h : ∀ e w'', R e w'' → ∃ v, e = .returned v ∧ wpOpsS P ops Q rest (a.put d v) cs w'') : wpOpsS P ops Q (i :: rest) a cs w := by
  subst hd
  simp only [wpOpsS, ho, hw, if_true, hr, Oper.upon]
  refine hc.mono (fun e w'' hR => ?_)
  obtain ⟨v, rfl, hh⟩ := h e w'' hR
  exact hh
theorem opsS_nil (h : Q .normal a cs w) : wpOpsS P ops Q [] a cs w := h
end
end Go.Proofs.Ytmmdckakchconaa
