/-
  The map of machines by a key of name and number: its keys, its elements, and what it is known to hold.
-/
import Derived.Test.YthnkbdjombiodaaGreatKKey
namespace Go.Proofs.YthnkbdjombiodaaGreat
open Go.RowKit Go.Maps
set_option linter.unusedVariables false

/-- how a machine reads -/
def md (m : Mac) : DataW Unit := .agg [.lit (.string m.name), .lit (.int .i64 m.mem), .lit (.int .i64 m.cpu), .lit (.int .i64 m.seen)]
def macElem : Value → Option (DataW Unit × List MemPlace)
  | .agg cs => match cs.toList with
    | [.string s, .int .i64 x, .int .i64 y, .int .i64 z] => some (md ⟨s.data.toList, x, y, z⟩, [])
    | _ => none
  | _ => none
theorem macElem_mk (m : Mac) : macElem (macv m) = some (md m, []) := by
  obtain ⟨nm, x, y, z⟩ := m
  simp [macElem, bs]
theorem macElem_inv {v : Value} {m : Mac} {ps : List MemPlace} (h : macElem v = some (md m, ps)) : v = macv m := by
  unfold macElem at h
  split at h
  · rename_i cs
    split at h
    · rename_i s x y z e
      have e2 : cs = #[.string s, .int .i64 x, .int .i64 y, .int .i64 z] := by cases cs; simpa using e
      obtain ⟨nm, a, b, c⟩ := m
      simp [md] at h
      obtain ⟨⟨h1, h2, h3, h4⟩, _⟩ := h
      subst h1 h2 h3 h4
      rw [e2]
      simp [macv, bs_data]
    · cases h
  · cases h
def findM (nm : List UInt8) (l : List Mac) : Option Mac := l.find? (fun m => decide (m.name = nm))
/-- the map holds, for every name, the first machine of the list that has it -/
def KnownM (l : List Mac) (D : DataW Unit) : Prop := ∀ nm kl, keyOf Tryz.prog 111 (keyv nm 0) = some kl → Maps.has D kl = (findM nm l).isSome ∧ ∀ m, findM nm l = some m → ∀ zd, D.atKey kl zd = md m
theorem knownM_empty : KnownM [] (.map []) := fun nm kl _ => ⟨by simp [Maps.has, findM], fun m h => by simp [findM] at h⟩
theorem KnownM.put {l : List Mac} {D : DataW Unit} (h : KnownM l D) (hD : IsMap D) {m : Mac} {kl : Lit} (hk : keyOf Tryz.prog 111 (keyv m.name 0) = some kl) : KnownM (m :: l) (D.put kl (md m)) := fun nm kl' hk' => by
  by_cases e : kl' = kl
  · subst e
    have := keyLaw.inj hk hk'
    simp [keyv] at this
    have hn : m.name = nm := by
      have h1 := congrArg (fun b : ByteArray => b.data.toList) this
      simpa [bs] using h1
    have hf : findM nm (m :: l) = some m := by simp [findM, hn]
    rw [hf]
    refine ⟨?_, fun m' h' zd => ?_⟩
    · rw [has_put_same hD (keyLaw.key hk)]; rfl
    · cases h'
      exact atKey_put_same hD (keyLaw.key hk) _ _
  · have hn : ¬ m.name = nm := fun hn => e (by subst hn; rw [hk] at hk'; exact (Option.some.inj hk').symm)
    have hf : findM nm (m :: l) = findM nm l := by simp [findM, hn]
    rw [hf, has_put_other e]
    refine ⟨(h nm kl' hk').1, fun m' h' zd => ?_⟩
    rw [atKey_put_other e]
    exact (h nm kl' hk').2 m' h' zd
theorem macZero (w : World) : (zeroValue 84).run Tryz.prog w = .ok (macv ⟨[], 0, 0, 0⟩) w := by kernel_rfl
/-- what a look-up finds -/
theorem lookM {w : World} {bm n : Nat} {l : List Mac} {D : DataW Unit} (hown : w.ownsMap Tryz.prog 111 macElem bm n D) (hk : KnownM l D) {nm : List UInt8} {kl : Lit} (hkey : keyOf Tryz.prog 111 (keyv nm 0) = some kl) :
    (Instr.lookup 107 (.map (some bm)) (keyv nm 0) true).run Tryz.prog w = .ok (.tuple #[macv ((findM nm l).getD ⟨[], 0, 0, 0⟩), .bool (findM nm l).isSome]) w := by
  obtain ⟨v, ps, hrun, hv⟩ := hown.look_ok keyLaw Tryz.underlying107 (macZero w) (macElem_mk ⟨[], 0, 0, 0⟩) hkey
  obtain ⟨h1, h2⟩ := hk nm kl hkey
  rw [hrun, h1]
  cases hf : findM nm l with
  | none =>
    rw [hf] at h1
    rw [atKey_of_not_has h1] at hv
    rw [macElem_inv hv]
    rfl
  | some m =>
    rw [h2 m hf] at hv
    rw [macElem_inv hv]
    rfl
end Go.Proofs.YthnkbdjombiodaaGreat
