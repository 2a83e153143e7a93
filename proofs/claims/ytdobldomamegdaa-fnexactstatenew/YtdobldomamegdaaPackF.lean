/-
  Several texts of this claim in one: KKey, MKey (pack.py put them together); each says in its own remark what is proved.
-/
import Derived.Test.YtdobldomamegdaaStAll
import Derived.Maps.OwnSet
import Derived.Maps.Views
import Derived.DeepKeys4
/-
  Keys of name and number: the keys of the maps.
-/
namespace Go.Proofs.Ytdobldomamegdaa
open Go.RowKit Go.Maps
set_option linter.unusedVariables false

abbrev keyv (nm : List UInt8) (k : Int) : Value := .agg #[.string (bs nm), .int .i64 k]
theorem keyLaidOut : laidOutB Try.prog = true := by kernel_rfl
theorem keyRow : (96 : TypeId) < Try.prog.types.size := of_decide_eq_true (by kernel_rfl)
theorem keyWide : (match Try.prog.underlying 96 with | some (.array _ _) | some (.struct _) => true | _ => false) = true := by kernel_rfl
set_option maxRecDepth 100000 in
theorem keyLaw : Keyed Try.prog 96 := Keyed.of_law (deep_law_laid keyLaidOut (m := 3) (by omega) keyRow (by kernel_rfl) keyWide)
theorem keyKeyType : Try.prog.keyType 96 = true := by kernel_rfl
theorem keyCells : Try.prog.cellsOf 96 = 2 := by kernel_rfl
theorem keyIntCells : Try.prog.cellsOf 3 = 1 := by kernel_rfl
theorem keyStrCells : Try.prog.cellsOf 9 = 1 := by kernel_rfl
theorem keyTypesMany : ∃ m, Try.prog.types.size + 1 = m + 2 := ⟨Try.prog.types.size - 1, by have : 3 ≤ Try.prog.types.size := of_decide_eq_true (by kernel_rfl); omega⟩
theorem klits_int (n : Nat) {a : Int} (h : (Lit.int .i64 a).wf = true) : Try.prog.keyLits (n + 1) 3 [.int .i64 a] = some [.int .i64 a] := by
  simp [Program.keyLits, Try.underlying3, h]
theorem klits_str (n : Nat) {s : ByteArray} (h : s.size ≤ maxLen) : Try.prog.keyLits (n + 1) 9 [.string s] = some [.string s.data.toList] := by
  simp [Program.keyLits, Try.underlying9, h]
theorem keyKey {nm : List UInt8} {k : Int} (hn : nm.length ≤ 9223372036854775807) (hk : (Lit.int .i64 k).wf = true) : ∃ kl, keyOf Try.prog 96 (keyv nm k) = some kl := by
  obtain ⟨m, hm⟩ := keyTypesMany
  have hs : (bs nm).size ≤ maxLen := by rw [bs_size]; exact hn
  have h : Try.prog.keyLits (m + 2) 96 [.string (bs nm), .int .i64 k] = some [.string (bs nm).data.toList, .int .i64 k] := by
    have h := Try.underlying96
    unfold Program.keyLits
    simp [h, keyCells, keyIntCells, keyStrCells, klits_int m hk, klits_str m hs]
  have hu := Try.underlying96
  have hk : keyOf Try.prog 96 (keyv nm k) = if Try.prog.keyType 96 && (keyv nm k).formed Try.prog 96 then (Try.prog.keyLits (Try.prog.types.size + 1) 96 (keyv nm k).cells.toList).map (fun ls => .string (keyBytes ls)) else none := by
    unfold keyOf
    rw [hu]
  rw [hk, if_pos (by simp [keyKeyType, Value.formed, hu, keyCells]), hm, show (keyv nm k).cells.toList = [.string (bs nm), .int .i64 k] from rfl, h]
  exact ⟨_, rfl⟩
theorem bs_data (s : ByteArray) : bs s.data.toList = s := by simp [bs]
end Go.Proofs.Ytdobldomamegdaa

/-
  The map of machines by a key of name and number: its keys, its elements, and what it is known to hold.
-/
namespace Go.Proofs.Ytdobldomamegdaa
open Go.RowKit Go.Maps
set_option linter.unusedVariables false

/-- how a machine reads -/
def md (m : Mac) : DataW Unit := .agg [.lit (.string m.name), .lit (.int .i64 m.mem), .lit (.int .i64 m.cpu), .lit (.int .i64 m.seen)]
def macElem : Value → Option (DataW Unit × List MemPlace)
  | .agg cs => match cs.toList with
    | [.string s, .int .i64 x, .int .i64 y, .int .i64 z] => some (md ⟨s.data.toList, x, y, z⟩, [])
    | _ => none
  | _ => none
theorem macElem_mk (m : Mac) : macElem (macv m) = some (md m, []) := by
  obtain ⟨nm, x, y, z⟩ := m
  simp [macElem, bs]
theorem macElem_inv {v : Value} {m : Mac} {ps : List MemPlace} (h : macElem v = some (md m, ps)) : v = macv m := by
  unfold macElem at h
  split at h
  · rename_i cs
    split at h
    · rename_i s x y z e
      have e2 : cs = #[.string s, .int .i64 x, .int .i64 y, .int .i64 z] := by cases cs; simpa using e
      obtain ⟨nm, a, b, c⟩ := m
      simp [md] at h
      obtain ⟨⟨h1, h2, h3, h4⟩, _⟩ := h
      subst h1 h2 h3 h4
      rw [e2]
      simp [macv, bs_data]
    · cases h
  · cases h
def findM (nm : List UInt8) (l : List Mac) : Option Mac := l.find? (fun m => decide (m.name = nm))
/-- the map holds, for every name, the first machine of the list that has it -/
def KnownM (l : List Mac) (D : DataW Unit) : Prop := ∀ nm kl, keyOf Try.prog 96 (keyv nm 0) = some kl → Maps.has D kl = (findM nm l).isSome ∧ ∀ m, findM nm l = some m → ∀ zd, D.atKey kl zd = md m
theorem knownM_empty : KnownM [] (.map []) := fun nm kl _ => ⟨by simp [Maps.has, findM], fun m h => by simp [findM] at h⟩
theorem KnownM.put {l : List Mac} {D : DataW Unit} (h : KnownM l D) (hD : IsMap D) {m : Mac} {kl : Lit} (hk : keyOf Try.prog 96 (keyv m.name 0) = some kl) : KnownM (m :: l) (D.put kl (md m)) := fun nm kl' hk' => by
  by_cases e : kl' = kl
  · subst e
    have := keyLaw.inj hk hk'
    simp [keyv] at this
    have hn : m.name = nm := by
      have h1 := congrArg (fun b : ByteArray => b.data.toList) this
      simpa [bs] using h1
    have hf : findM nm (m :: l) = some m := by simp [findM, hn]
    rw [hf]
    refine ⟨?_, fun m' h' zd => ?_⟩
    · rw [has_put_same hD (keyLaw.key hk)]; rfl
    · cases h'
      exact atKey_put_same hD (keyLaw.key hk) _ _
  · have hn : ¬ m.name = nm := fun hn => e (by subst hn; rw [hk] at hk'; exact (Option.some.inj hk').symm)
    have hf : findM nm (m :: l) = findM nm l := by simp [findM, hn]
    rw [hf, has_put_other e]
    refine ⟨(h nm kl' hk').1, fun m' h' zd => ?_⟩
    rw [atKey_put_other e]
    exact (h nm kl' hk').2 m' h' zd
theorem macZero (w : World) : (zeroValue 69).run Try.prog w = .ok (macv ⟨[], 0, 0, 0⟩) w := by kernel_rfl
/-- what a look-up finds -/
theorem lookM {w : World} {bm n : Nat} {l : List Mac} {D : DataW Unit} (hown : w.ownsMap Try.prog 96 macElem bm n D) (hk : KnownM l D) {nm : List UInt8} {kl : Lit} (hkey : keyOf Try.prog 96 (keyv nm 0) = some kl) :
    (Instr.lookup 92 (.map (some bm)) (keyv nm 0) true).run Try.prog w = .ok (.tuple #[macv ((findM nm l).getD ⟨[], 0, 0, 0⟩), .bool (findM nm l).isSome]) w := by
  obtain ⟨v, ps, hrun, hv⟩ := hown.look_ok keyLaw Try.underlying92 (macZero w) (macElem_mk ⟨[], 0, 0, 0⟩) hkey
  obtain ⟨h1, h2⟩ := hk nm kl hkey
  rw [hrun, h1]
  cases hf : findM nm l with
  | none =>
    rw [hf] at h1
    rw [atKey_of_not_has h1] at hv
    rw [macElem_inv hv]
    rfl
  | some m =>
    rw [h2 m hf] at hv
    rw [macElem_inv hv]
    rfl
end Go.Proofs.Ytdobldomamegdaa
