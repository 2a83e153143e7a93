/-
  The bytes of a text as '[]byte(t)' lays them: read, and one of them written.
-/
import Derived.Test.YtobpjegfgegkcaaGreatDoorPackA
namespace Go.Proofs.YtobpjegfgegkcaaGreatDoor
open Go.RowKit
set_option linter.unusedVariables false
/-- block g holds the bytes l from its head on -/
def Row (w : World) (g : Nat) (l : List UInt8) : Prop := ∃ C : Array Value, w.heap[g]? = some (.cells C 5 (C.size, C.size + 1)) ∧ l.length ≤ C.size ∧ ∀ j (h : j < l.length), C[j]? = some (.int .u8 (l[j].toNat : Int))
theorem Row.cell {w : World} {g : Nat} {l : List UInt8} (h : Row w g l) (j : Nat) (hj : j < l.length) : w.cell? ⟨g, j, none⟩ = some (.int .u8 (l[j].toNat : Int)) := by
  obtain ⟨C, h1, h2, h3⟩ := h
  simp [World.cell?, h1, h3 j hj]
theorem Row.frozen {w : World} {g : Nat} {l : List UInt8} (h : Row w g l) (j : Nat) (hj : j < l.length) : w.frozen? ⟨g, j, none⟩ = false := by
  obtain ⟨C, h1, h2, h3⟩ := h
  simp [World.frozen?, h1]
  omega
theorem Row.lt {w : World} {g : Nat} {l : List UInt8} (h : Row w g l) : g < w.heap.size := by
  obtain ⟨C, h1, _⟩ := h
  exact lt_of_block h1
theorem Row.same {w w' : World} {g : Nat} {l : List UInt8} (h : Row w g l) (hg : w'.heap[g]? = w.heap[g]?) : Row w' g l := by
  obtain ⟨C, h1, h2, h3⟩ := h
  exact ⟨C, hg.trans h1, h2, h3⟩
theorem Row.below {w w' : World} {B g : Nat} {l : List UInt8} (h : Row w g l) (hb : Below B w w') (hg : g < B) : Row w' g l := h.same (hb.block g hg)
theorem Row.set {w : World} {g : Nat} {l : List UInt8} (h : Row w g l) (j : Nat) (hj : j < l.length) (c : UInt8) : Row (w.setCell ⟨g, j, none⟩ (.int .u8 (c.toNat : Int))) g (l.set j c) := by
  obtain ⟨C, h1, h2, h3⟩ := h
  refine ⟨C.setIfInBounds j (.int .u8 (c.toNat : Int)), ?_, by simpa using h2, fun k hk => ?_⟩
  · rw [Array.size_setIfInBounds]
    have hlt := lt_of_block h1
    simp only [World.setCell, Array.getElem?_modify, if_pos, h1, Option.map_some]
    rfl
  · rw [List.length_set] at hk
    rw [Array.getElem?_setIfInBounds, List.getElem_set]
    by_cases e : j = k
    · subst e
      rw [if_pos rfl, if_pos rfl, if_pos (by omega)]
    · rw [if_neg e, if_neg e, h3 k hk]
theorem row_made (w : World) (s : ByteArray) (cap : Nat) : Row (w.drew.alloc (.cells (bytesRow s cap) 5 ((bytesRow s cap).size, (bytesRow s cap).size + 1))) w.heap.size s.data.toList := by
  refine ⟨bytesRow s cap, ?_, ?_, fun j hj => ?_⟩
  · show (w.heap.push _)[w.heap.size]? = _
    simp
  · have : s.data.toList.length = s.size := by simp
    simp [bytesRow]
  · have hj' : j < s.size := by simpa using hj
    have hj2 : j < s.data.size := hj'
    unfold bytesRow
    rw [Array.getElem?_append_left (by rw [Array.size_map]; exact hj2), Array.getElem?_map, Array.getElem?_eq_getElem hj2]
    simp
/-- the text of the bytes -/
theorem Row.str {w : World} {g : Nat} {l : List UInt8} (h : Row w g l) (cap : Nat) :
    (convert 22 9 (.slice (some ⟨g, 0, none⟩) l.length cap)).run Tryz.prog w = .ok (.string (bs l)) w :=
  run_convert_bytes_back w 22 9 5 ⟨g, 0, none⟩ cap l Tryz.underlying22 Tryz.underlying5 Tryz.underlying9 (fun j hj => by
    rw [Lib.add_plain, Nat.zero_add]; exact h.cell j hj)
theorem xor_byte (a : UInt8) (y : Nat) (hy : y < 256) : bits .xor .u8 (a.toNat : Int) (y : Int) = ((a ^^^ UInt8.ofNat y).toNat : Int) := by
  rw [u8_xor_nat _ _ a.toNat_lt hy, UInt8.toNat_xor, UInt8.toNat_ofNat', Nat.mod_eq_of_lt (by simpa using hy)]
theorem xor_ne (a : UInt8) (y : Nat) (h0 : 0 < y) (hy : y < 256) : a ^^^ UInt8.ofNat y ≠ a := by
  intro e
  have := congrArg (a ^^^ ·) e
  simp only [← UInt8.xor_assoc, UInt8.xor_self, UInt8.zero_xor] at this
  have h2 := congrArg UInt8.toNat this
  rw [UInt8.toNat_ofNat'] at h2
  simp at h2
  omega
/-- the byte at I turned by one to 255 -/
theorem row_xor {w0 w : World} {B g : Nat} {l : List UInt8} {I : Nat} {x : Int} (h : Row w g l) (hI : I < l.length) (h0 : 0 ≤ x) (h1 : x ≤ 255) (hb : Below B w0 w) (hB : B ≤ g) :
    ∃ Y : Nat, 0 < Y ∧ Y < 256 ∧ Row ((w.setCell ⟨g, I, none⟩ (.int .u8 (bits .xor .u8 (l[I].toNat : Int) (IntKind.u8.wrap (IntKind.i64.wrap (1 + x.tmod 255)))))).drew) g (l.set I (l[I] ^^^ UInt8.ofNat Y))
      ∧ Below B w0 ((w.setCell ⟨g, I, none⟩ (.int .u8 (bits .xor .u8 (l[I].toNat : Int) (IntKind.u8.wrap (IntKind.i64.wrap (1 + x.tmod 255)))))).drew) := by
  obtain ⟨X, rfl⟩ := Int.eq_ofNat_of_zero_le h0
  have e : IntKind.u8.wrap (IntKind.i64.wrap (1 + (X : Int).tmod 255)) = ((1 + X % 255 : Nat) : Int) := by
    rw [Int.tmod_eq_emod_of_nonneg (by omega), IntKind.wrap_i64, IntKind.wrap_u8]
    omega
  rw [e, xor_byte _ _ (by omega)]
  refine ⟨1 + X % 255, by omega, by omega, (h.set I hI _).below (B := (w.setCell ⟨g, I, none⟩ (.int .u8 ((l[I] ^^^ UInt8.ofNat (1 + X % 255)).toNat : Int))).heap.size) ((Below.refl _ _).drew) (by simpa using h.lt), (hb.setCell hB _).drew⟩
end Go.Proofs.YtobpjegfgegkcaaGreatDoor
