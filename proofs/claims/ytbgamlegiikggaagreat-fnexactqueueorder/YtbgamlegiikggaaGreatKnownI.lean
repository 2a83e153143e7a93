/-
  The map of ratios by two amounts at once: its keys, its elements, and what it is known to hold.
-/
import Derived.Test.YtbgamlegiikggaaGreatRatioP
import Derived.Maps.OwnSet
import Derived.Maps.Views
import Derived.DeepKeys4
namespace Go.Proofs.YtbgamlegiikggaaGreat
open Go.RowKit Go.Maps
set_option linter.unusedVariables false

theorem mapLaidOut : laidOutB Tryz.prog = true := by kernel_rfl
theorem pairRow : (66 : TypeId) < Tryz.prog.types.size := of_decide_eq_true (by kernel_rfl)
theorem pairWide : (match Tryz.prog.underlying 66 with | some (.array _ _) | some (.struct _) => true | _ => false) = true := by kernel_rfl
set_option maxRecDepth 100000 in
theorem pairLaw : Keyed Tryz.prog 66 := Keyed.of_law (deep_law_laid mapLaidOut (m := 3) (by omega) pairRow (by kernel_rfl) pairWide)
theorem pairKeyType : Tryz.prog.keyType 66 = true := by kernel_rfl
theorem pairCells : Tryz.prog.cellsOf 66 = 4 := by kernel_rfl
theorem resCells : Tryz.prog.cellsOf 64 = 2 := by kernel_rfl
theorem intCells : Tryz.prog.cellsOf 3 = 1 := by kernel_rfl
theorem typesMany : ∃ m, Tryz.prog.types.size + 1 = m + 3 := ⟨Tryz.prog.types.size - 2, by have : 3 ≤ Tryz.prog.types.size := of_decide_eq_true (by kernel_rfl); omega⟩
theorem lits_int (n : Nat) {a : Int} (h : (Lit.int .i64 a).wf = true) : Tryz.prog.keyLits (n + 1) 3 [.int .i64 a] = some [.int .i64 a] := by
  simp [Program.keyLits, Tryz.underlying3, h]
theorem lits_res (n : Nat) {a b : Int} (ha : (Lit.int .i64 a).wf = true) (hb : (Lit.int .i64 b).wf = true) : Tryz.prog.keyLits (n + 2) 64 [.int .i64 a, .int .i64 b] = some [.int .i64 a, .int .i64 b] := by
  have h := Tryz.underlying64
  unfold Program.keyLits
  simp [h, resCells, intCells, lits_int n ha, lits_int n hb]
theorem pairKey {a b c d : Int} (ha : (Lit.int .i64 a).wf = true) (hb : (Lit.int .i64 b).wf = true) (hc : (Lit.int .i64 c).wf = true) (hd : (Lit.int .i64 d).wf = true) : ∃ kl, keyOf Tryz.prog 66 (pv a b c d) = some kl := by
  obtain ⟨m, hm⟩ := typesMany
  have h : Tryz.prog.keyLits (m + 3) 66 [.int .i64 a, .int .i64 b, .int .i64 c, .int .i64 d] = some [.int .i64 a, .int .i64 b, .int .i64 c, .int .i64 d] := by
    have h := Tryz.underlying66
    unfold Program.keyLits
    simp [h, pairCells, resCells, lits_res m ha hb, lits_res m hc hd, List.range_succ]
  have hu := Tryz.underlying66
  have hk : keyOf Tryz.prog 66 (pv a b c d) = if Tryz.prog.keyType 66 && (pv a b c d).formed Tryz.prog 66 then (Tryz.prog.keyLits (Tryz.prog.types.size + 1) 66 (pv a b c d).cells.toList).map (fun ls => .string (keyBytes ls)) else none := by
    unfold keyOf
    rw [hu]
  rw [hk, if_pos (by simp [pairKeyType, Value.formed, hu, pairCells]), hm, show (pv a b c d).cells.toList = [.int .i64 a, .int .i64 b, .int .i64 c, .int .i64 d] from rfl, h]
  exact ⟨_, rfl⟩

/-- how a fraction reads -/
def fd (p : Int × Int) : DataW Unit := .agg [.lit (.int .i64 p.1), .lit (.int .i64 p.2)]
def fracElem : Value → Option (DataW Unit × List MemPlace)
  | .agg cs => match cs.toList with
    | [.int .i64 x, .int .i64 y] => some (fd (x, y), [])
    | _ => none
  | _ => none
theorem fracElem_mk (x y : Int) : fracElem (rv x y) = some (fd (x, y), []) := rfl
theorem fracElem_inv {v : Value} {x y : Int} {ps : List MemPlace} (h : fracElem v = some (fd (x, y), ps)) : v = rv x y := by
  unfold fracElem at h
  split at h
  · rename_i cs
    split at h
    · rename_i x' y' e
      have e2 : cs = #[.int .i64 x', .int .i64 y'] := by cases cs; simpa using e
      simp [fd] at h
      rw [e2, h.1.1, h.1.2]
    · cases h
  · cases h
/-- whatever stands there is the ratio of its key -/
def Known (D : DataW Unit) : Prop := ∀ a b c d kl, keyOf Tryz.prog 66 (pv a b c d) = some kl → Maps.has D kl = true → ∀ zd, D.atKey kl zd = fd (ratio a b c d)
theorem known_empty : Known (.map []) := fun a b c d kl _ h => by simp [Maps.has] at h
theorem Known.put {D : DataW Unit} (h : Known D) (hD : IsMap D) {a b c d : Int} {kl : Lit} (hk : keyOf Tryz.prog 66 (pv a b c d) = some kl) : Known (D.put kl (fd (ratio a b c d))) := fun a' b' c' d' kl' hk' hh zd => by
  by_cases e : kl' = kl
  · subst e
    have := pairLaw.inj hk hk'
    simp [pv] at this
    obtain ⟨rfl, rfl, rfl, rfl⟩ := this
    exact atKey_put_same hD (pairLaw.key hk) _ _
  · rw [atKey_put_other e]
    rw [has_put_other e] at hh
    exact h a' b' c' d' kl' hk' hh zd
theorem fracZero (w : World) : (zeroValue 160).run Tryz.prog w = .ok (rv 0 0) w := by kernel_rfl
/-- what a look-up finds -/
theorem look {w : World} {bm n : Nat} {D : DataW Unit} (hown : w.ownsMap Tryz.prog 66 fracElem bm n D) (hk : Known D) {a b c d : Int} {kl : Lit} (hkey : keyOf Tryz.prog 66 (pv a b c d) = some kl) :
    (Instr.lookup 115 (.map (some bm)) (pv a b c d) true).run Tryz.prog w = .ok (.tuple #[if Maps.has D kl then fv (ratio a b c d) else rv 0 0, .bool (Maps.has D kl)]) w := by
  obtain ⟨v, ps, hrun, hv⟩ := hown.look_ok pairLaw Tryz.underlying115 (fracZero w) (fracElem_mk 0 0) hkey
  rw [hrun]
  cases hh : Maps.has D kl
  · rw [atKey_of_not_has hh] at hv
    rw [fracElem_inv hv]
    rfl
  · rw [hk a b c d kl hkey hh] at hv
    rw [fracElem_inv hv]
    rfl
end Go.Proofs.YtbgamlegiikggaaGreat
