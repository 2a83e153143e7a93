/-
  A plain region, one operation at a time: what each gives is told from outside.
-/
import Derived.Test.YtmmdckakchconaaBase
import Derived.Deep.WholeRow
namespace Go.Proofs.Ytmmdckakchconaa
open Go.RowKit
set_option linter.unusedVariables false
section
variable {P : Program} {ops : Array Oper} {Q : Exit → Act → World → Prop} {a : Act} {w w' : World} {rest : List Oper} {o : Oper} {v : Value} {d : Option Tmp}
theorem wpList_val (hg : o.guard = none) (hd : o.dst = d) (hr : (execOp a.eval o).run P w = .ok (.value v) w') (h : wpList P ops Q rest (a.put d v) w') : wpList P ops Q (o :: rest) a w :=
  wpList_plain hg fun K hK => by
    subst hd
    unfold Oper.wp
    rw [hr]
    exact hK _ _ h
theorem wpList_same (hg : o.guard = none) (hd : o.dst = d) (hr : (execOp a.eval o).run P w = .ok (.value v) w) (h : wpList P ops Q rest (a.put d v) w) : wpList P ops Q (o :: rest) a w := wpList_val hg hd hr h
theorem wpList_none (hg : o.guard = none) (hd : o.dst = d) (hr : (execOp a.eval o).run P w = .ok .skip w') (h : wpList P ops Q rest (a.put d undef) w') : wpList P ops Q (o :: rest) a w :=
  wpList_plain hg fun K hK => by
    subst hd
    unfold Oper.wp
    rw [hr]
    exact hK _ _ h
theorem run_v {s : Sem Value} (h : s.run P w = .ok v w') : (do pure (Next.value (← s)) : Sem Next).run P w = .ok (.value v) w' := by rw [Sem.run_bind, h]; rfl
theorem run_u {s : Sem Unit} (h : s.run P w = .ok () w') : (do s; pure Next.skip : Sem Next).run P w = .ok .skip w' := by rw [Sem.run_bind, h]; rfl
end
end Go.Proofs.Ytmmdckakchconaa
