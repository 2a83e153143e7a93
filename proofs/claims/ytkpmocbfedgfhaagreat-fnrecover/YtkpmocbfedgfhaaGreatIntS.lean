/-
  Rows of whole numbers: whether one is among them, by the model and by the library; rows that a call gathers; walks over the dump.
-/
import Derived.Test.YtkpmocbfedgfhaaGreatPackA
import Derived.Laws.AppendOwn
namespace Go.Proofs.YtkpmocbfedgfhaaGreat
open Go.RowKit
set_option linter.unusedVariables false
def IRow (w : World) (ao : Option Addr) (len : Nat) (l : List Int) : Prop :=
  len = l.length ∧ (len = 0 ∨ ∃ b off, ao = some ⟨b, off, none⟩ ∧ ∀ i (h : i < l.length), w.cell? ⟨b, off + i, none⟩ = some (.int .i64 l[i]))
theorem IRow.below {w w' : World} {ao : Option Addr} {len : Nat} {l : List Int} (h : IRow w ao len l) (hb : Below w.heap.size w w') : IRow w' ao len l := by
  obtain ⟨h1, h2⟩ := h
  refine ⟨h1, ?_⟩
  rcases h2 with h2 | ⟨b, off, h3, h4⟩
  · exact .inl h2
  · exact .inr ⟨b, off, h3, fun i h => (hb.cell (cell_lt (h4 i h))).trans (h4 i h)⟩
theorem IRow.at {w : World} {ao : Option Addr} {len : Nat} {l : List Int} (h : IRow w ao len l) {i : Nat} (hi : i < len) : ∃ b off, ao = some ⟨b, off, none⟩ ∧ ∀ (h : i < l.length), w.cell? ⟨b, off + i, none⟩ = some (.int .i64 l[i]) := by
  obtain ⟨h1, h2⟩ := h
  rcases h2 with h2 | ⟨b, off, h3, h4⟩
  · omega
  · exact ⟨b, off, h3, fun hi => h4 i hi⟩
/-- whether a number is among some -/
def hasI (x : Int) : List Int → Bool
  | [] => false
  | y :: t => decide (y = x) || hasI x t
theorem hasI_step {x : Int} {l : List Int} {k : Nat} (h : k < l.length) : hasI x (l.drop k) = (decide (l[k] = x) || hasI x (l.drop (k + 1))) := by rw [List.drop_eq_getElem_cons h, hasI]
theorem hasI_end {x : Int} {l : List Int} {k : Nat} (h : l.length ≤ k) : hasI x (l.drop k) = false := by rw [List.drop_of_length_le h]; rfl
theorem hasI_iff {x : Int} : ∀ l : List Int, hasI x l = true ↔ x ∈ l
  | [] => by simp [hasI]
  | y :: t => by
    rw [hasI, Bool.or_eq_true, decide_eq_true_eq, hasI_iff t, List.mem_cons]
    exact ⟨fun h => h.imp (fun e => e.symm) id, fun h => h.imp (fun e => e.symm) id⟩
set_option maxRecDepth 100000 in
set_option maxHeartbeats 1000000 in
theorem l06Id_any (ao : Option Addr) (len cap : Nat) (l : List Int) (x : Int) (w : World) (h : IRow w ao len l) (hl : len ≤ 1048576) :
    Calls Tryz.prog 133 #[.slice ao len cap, .int .i64 x] w fun e w' => e = .returned (.bool (hasI x l)) ∧ w = w' := by
  have HR := hide h
  have HL := hide h.1
  clear h
  go_enter Tryz.func133, Tryz.ntmps133
  go_wp2
  go_loopw [5] (fun i wr => ∃ k : Nat, k ≤ len ∧ i = .int .i64 k ∧ Hid (hasI x l = hasI x (l.drop k)) ∧ wr = w) (fun i _ => len - (intOf i).toNat)
  case atStart => exact ⟨0, Nat.zero_le _, rfl, hide (by simp), rfl⟩
  case round =>
    obtain ⟨k, hk, rfl, hp, rfl⟩ := hrel
    by_cases hlt : k < len
    · obtain ⟨b, off, rfl, hq⟩ := (unhide HR).at hlt
      have hkl : k < l.length := by have := unhide HL; omega
      have hst := hide (hasI_step (x := x) hkl)
      have c0 := hq hkl
      clear hq
      obtain ⟨s, hs⟩ : ∃ s, l[k] = s := ⟨_, rfl⟩
      rw [hs] at c0 hst
      clear hs hkl
      by_cases he : s = x
      · have HE := hide he
        have hbe : (s == x) = true := by simp [he]
        clear he
        go_wp2
        go_ret
        exact ⟨ret_bool (by rw [unhide hp, unhide hst]; simp [unhide HE]), rfl⟩
      · have HE := hide he
        have hbe : (s == x) = false := by simp [he]
        clear he
        go_wp2
        go_roundw
        case rel => exact ⟨k + 1, by omega, by go_num, hide (by rw [unhide hp, unhide hst]; simp [unhide HE]), trivial⟩
        case measure => simp [intOf]; omega
    · go_wp2
      go_ret
      exact ⟨ret_bool (by rw [unhide hp, hasI_end (by have := unhide HL; omega)]), rfl⟩

/-- numbers as cells -/
def icells (l : List Int) : List Value := l.map (Value.int .i64)
/-- v is a list of these numbers, in memory of its own from block B on -/
def IOwn (B : Nat) (w : World) (v : Value) (l : List Int) : Prop := w.ownsRow B 3 1 v l.length (icells l)
theorem iown_empty (w : World) : IOwn w.heap.size (w.alloc (.cells #[] 3)) (.slice (some ⟨w.heap.size, 0, none⟩) 0 0) [] :=
  ⟨rfl, .inr ⟨w.heap.size, 0, #[], rfl, Nat.le_refl _, by show (w.heap.push _)[w.heap.size]? = _; simp, Nat.le_refl _, by unfold maxLen; omega, rfl, rfl⟩⟩
theorem iown_row {w : World} {B : Nat} {v : Value} {l : List Int} (h : IOwn B w v l) : ∃ ao cap, v = .slice ao l.length cap ∧ IRow w ao l.length l := by
  rcases h.2 with ⟨rfl, h0⟩ | ⟨g, cap, cur, rfl, h1, h2, h3, h4, h5, h6⟩
  · exact ⟨none, 0, by rw [h0], ⟨rfl, .inl h0⟩⟩
  · refine ⟨some ⟨g, 0, none⟩, cap, rfl, ⟨rfl, .inr ⟨g, 0, rfl, fun i hi => ?_⟩⟩⟩
    have hv : (icells l)[i]? = some (.int .i64 l[i]) := by simp [icells, hi]
    rw [← h6, List.getElem?_take_of_lt (by simpa using hi)] at hv
    simp only [Nat.zero_add]
    simp [World.cell?, h2]
    simpa using hv
theorem Tryz.infoI : (Tryz.prog.info? 3).map (fun i => (i.zero, i.size, i.bytes)) = some (some (.int .i64 0), 1, 8) := by kernel_rfl
end Go.Proofs.YtkpmocbfedgfhaaGreat
