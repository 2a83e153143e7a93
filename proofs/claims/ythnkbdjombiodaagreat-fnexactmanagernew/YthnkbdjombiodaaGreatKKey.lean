/-
  Keys of name and number: the keys of the maps.
-/
import Derived.Test.YthnkbdjombiodaaGreatStAll
import Derived.Maps.OwnSet
import Derived.Maps.Views
import Derived.DeepKeys4
namespace Go.Proofs.YthnkbdjombiodaaGreat
open Go.RowKit Go.Maps
set_option linter.unusedVariables false

abbrev keyv (nm : List UInt8) (k : Int) : Value := .agg #[.string (bs nm), .int .i64 k]
theorem keyLaidOut : laidOutB Tryz.prog = true := by kernel_rfl
theorem keyRow : (111 : TypeId) < Tryz.prog.types.size := of_decide_eq_true (by kernel_rfl)
theorem keyWide : (match Tryz.prog.underlying 111 with | some (.array _ _) | some (.struct _) => true | _ => false) = true := by kernel_rfl
set_option maxRecDepth 100000 in
theorem keyLaw : Keyed Tryz.prog 111 := Keyed.of_law (deep_law_laid keyLaidOut (m := 3) (by omega) keyRow (by kernel_rfl) keyWide)
theorem keyKeyType : Tryz.prog.keyType 111 = true := by kernel_rfl
theorem keyCells : Tryz.prog.cellsOf 111 = 2 := by kernel_rfl
theorem keyIntCells : Tryz.prog.cellsOf 3 = 1 := by kernel_rfl
theorem keyStrCells : Tryz.prog.cellsOf 9 = 1 := by kernel_rfl
theorem keyTypesMany : ∃ m, Tryz.prog.types.size + 1 = m + 2 := ⟨Tryz.prog.types.size - 1, by have : 3 ≤ Tryz.prog.types.size := of_decide_eq_true (by kernel_rfl); omega⟩
theorem klits_int (n : Nat) {a : Int} (h : (Lit.int .i64 a).wf = true) : Tryz.prog.keyLits (n + 1) 3 [.int .i64 a] = some [.int .i64 a] := by
  simp [Program.keyLits, Tryz.underlying3, h]
theorem klits_str (n : Nat) {s : ByteArray} (h : s.size ≤ maxLen) : Tryz.prog.keyLits (n + 1) 9 [.string s] = some [.string s.data.toList] := by
  simp [Program.keyLits, Tryz.underlying9, h]
theorem keyKey {nm : List UInt8} {k : Int} (hn : nm.length ≤ 9223372036854775807) (hk : (Lit.int .i64 k).wf = true) : ∃ kl, keyOf Tryz.prog 111 (keyv nm k) = some kl := by
  obtain ⟨m, hm⟩ := keyTypesMany
  have hs : (bs nm).size ≤ maxLen := by rw [bs_size]; exact hn
  have h : Tryz.prog.keyLits (m + 2) 111 [.string (bs nm), .int .i64 k] = some [.string (bs nm).data.toList, .int .i64 k] := by
    have h := Tryz.underlying111
    unfold Program.keyLits
    simp [h, keyCells, keyIntCells, keyStrCells, klits_int m hk, klits_str m hs]
  have hu := Tryz.underlying111
  have hk : keyOf Tryz.prog 111 (keyv nm k) = if Tryz.prog.keyType 111 && (keyv nm k).formed Tryz.prog 111 then (Tryz.prog.keyLits (Tryz.prog.types.size + 1) 111 (keyv nm k).cells.toList).map (fun ls => .string (keyBytes ls)) else none := by
    unfold keyOf
    rw [hu]
  rw [hk, if_pos (by simp [keyKeyType, Value.formed, hu, keyCells]), hm, show (keyv nm k).cells.toList = [.string (bs nm), .int .i64 k] from rfl, h]
  exact ⟨_, rfl⟩
theorem bs_data (s : ByteArray) : bs s.data.toList = s := by simp [bs]
end Go.Proofs.YthnkbdjombiodaaGreat
