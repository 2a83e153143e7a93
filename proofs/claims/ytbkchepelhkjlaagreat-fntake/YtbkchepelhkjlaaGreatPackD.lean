/-
  Several texts of this claim in one: OwnC, OwnP (pack.py put them together); each says in its own remark what is proved.
-/
import Derived.Test.YtbkchepelhkjlaaGreatStAll
import Derived.Test.YtbkchepelhkjlaaGreatPackC
import Derived.Laws.AppendOwn
import Derived.Lib.SliceRun
import Derived.Deep.RegionWith
import Derived.Test.YtbkchepelhkjlaaGreatPackB
/-
 Lists of containers that own their memory; the library's Clone of them (mkown.py wrote this); walks over the dump.
-/
namespace Go.Proofs.YtbkchepelhkjlaaGreat
open Go.RowKit
set_option linter.unusedVariables false
abbrev ccell (q : Con) : List Value := [.int .i64 q.id, .int .i64 q.app, .string (bs q.node), .int .i64 q.mem, .int .i64 q.cpu]
def ccells : List Con → List Value
 | [] => []
 | q :: t => ccell q ++ ccells t
theorem ccells_app (a : List Con) (q : Con) : ccells (a ++ [q]) = ccells a ++ ccell q := by
 induction a with
 | nil => rfl
 | cons x t ih => rw [List.cons_append, ccells, ccells, ih, List.append_assoc]
theorem ccells_len : ∀ l : List Con, (ccells l).length = l.length * 5
 | [] => rfl
 | q :: t => by rw [ccells, List.length_append, ccells_len t]; simp; omega
theorem ccells_at : ∀ (l : List Con) (i : Nat) (h : i < l.length), (ccells l)[i * 5]? = some (.int .i64 l[i].id) ∧ (ccells l)[i * 5 + 1]? = some (.int .i64 l[i].app) ∧ (ccells l)[i * 5 + 2]? = some (.string (bs l[i].node)) ∧ (ccells l)[i * 5 + 3]? = some (.int .i64 l[i].mem) ∧ (ccells l)[i * 5 + 4]? = some (.int .i64 l[i].cpu)
 | q :: t, 0, _ => ⟨rfl, rfl, rfl, rfl, rfl⟩
 | q :: t, i + 1, h => by
  have e := ccells_at t i (by simpa using h)
  have k : ∀ j, (ccells (q :: t))[(i + 1) * 5 + j]? = (ccells t)[i * 5 + j]? := fun j => by
   rw [ccells, show (i + 1) * 5 + j = (ccell q).length + (i * 5 + j) by simp; omega, List.getElem?_append_right (by omega)]
   congr 1
   omega
  have k0 := k 0
  simp only [Nat.add_zero] at k0
  rw [k0, k 1, k 2, k 3, k 4]
  simpa using e
theorem ccells_row {w : World} {b off len : Nat} {l : List Con} (h : ConRow w (some ⟨b, off, none⟩) len l) : ∀ j u, (ccells l)[j]? = some u → w.cell? ⟨b, off + j, none⟩ = some u := fun j u hj => by
 have hjl : j < l.length * 5 := by rw [← ccells_len]; exact (List.getElem?_eq_some_iff.1 hj).1
 obtain ⟨h1, h2⟩ := h
 rcases h2 with h2 | ⟨b', off', e, h4⟩
 ·omega
 ·cases e
  have hi : j / 5 < l.length := by omega
  obtain ⟨a0, a1, a2, a3, a4⟩ := ccells_at l (j / 5) hi
  obtain ⟨c0, c1, c2, c3, c4⟩ := h4 (j / 5) hi
  rcases (show j % 5 = 0 ∨ j % 5 = 1 ∨ j % 5 = 2 ∨ j % 5 = 3 ∨ j % 5 = 4 by omega) with e | e | e | e | e
  ·rw [show j = j / 5 * 5 by omega] at hj ⊢; rw [a0] at hj; cases hj; exact c0
  ·rw [show j = j / 5 * 5 + 1 by omega] at hj ⊢; rw [a1] at hj; cases hj; rw [← Nat.add_assoc]; exact c1
  ·rw [show j = j / 5 * 5 + 2 by omega] at hj ⊢; rw [a2] at hj; cases hj; rw [← Nat.add_assoc]; exact c2
  ·rw [show j = j / 5 * 5 + 3 by omega] at hj ⊢; rw [a3] at hj; cases hj; rw [← Nat.add_assoc]; exact c3
  ·rw [show j = j / 5 * 5 + 4 by omega] at hj ⊢; rw [a4] at hj; cases hj; rw [← Nat.add_assoc]; exact c4
theorem ccells_one : ∀ (l : List Con), ∀ u ∈ ccells l, u.oneCell' = true
 | [], u, h => by simp [ccells] at h
 | q :: t, u, h => by
  rw [ccells, List.mem_append] at h
  rcases h with h | h
  ·simp at h
   rcases h with rfl | rfl | rfl | rfl | rfl <;> rfl
  ·exact ccells_one t u h
/-- v is a list of these containers, in memory of its own from block B on -/
def COwn (B : Nat) (w : World) (v : Value) (l : List Con) : Prop := w.ownsRow B 70 5 v l.length (ccells l)
theorem cown_nil (B : Nat) (w : World) : COwn B w (.slice none 0 0) [] := World.ownsRow_nil _ _ _ _
theorem cown_empty (w : World) : w.alloc (.cells #[] 70) |>.ownsRow w.heap.size 70 5 (.slice (some ⟨w.heap.size, 0, none⟩) 0 0) 0 [] :=
 ⟨rfl, .inr ⟨w.heap.size, 0, #[], rfl, Nat.le_refl _, by show (w.heap.push _)[w.heap.size]? = _; simp, Nat.le_refl _, by unfold maxLen; omega, rfl, rfl⟩⟩
theorem cown_below {w w' : World} {B : Nat} {v : Value} {l : List Con} (h : COwn B w v l) (hb : Below w.heap.size w w') : COwn B w' v l :=
 World.ownsRow.kept h (grownBy_below (grownBy_refl w none) hb) (by by_cases e : v.ownBlock = none; exact .inl e; exact .inr e)
theorem cown_base {w : World} {B B' : Nat} {v : Value} {l : List Con} (h : COwn B w v l) (hb : B' ≤ B) : COwn B' w v l := by
 obtain ⟨h1, h2⟩ := h
 refine ⟨h1, ?_⟩
 rcases h2 with h2 | ⟨g, cap, cur, a, b, c⟩
 ·exact .inl h2
 ·exact .inr ⟨g, cap, cur, a, Nat.le_trans hb b, c⟩
theorem cown_row {w : World} {B : Nat} {v : Value} {l : List Con} (h : COwn B w v l) : ∃ ao cap, v = .slice ao l.length cap ∧ ConRow w ao l.length l ∧ l.length ≤ cap ∧ (l ≠ [] → ∃ g cur, ao = some ⟨g, 0, none⟩ ∧ B ≤ g ∧ w.heap[g]? = some (.cells cur 70 (0, 0)) ∧ cur.size = cap * 5) := by
 rcases h.2 with ⟨rfl, h0⟩ | ⟨g, cap, cur, rfl, h1, h2, h3, h4, h5, h6⟩
 ·exact ⟨none, 0, by rw [h0], ⟨rfl, .inl h0⟩, by omega, fun hn => absurd (List.length_eq_zero_iff.1 h0) hn⟩
 ·refine ⟨some ⟨g, 0, none⟩, cap, rfl, ⟨rfl, .inr ⟨g, 0, rfl, fun i hi => ?_⟩⟩, h3, fun _ => ⟨g, cur, rfl, h1, h2, h5⟩⟩
  obtain ⟨a, b, c, d, e⟩ := ccells_at l i hi
  have k : ∀ j (v : Value), j < l.length * 5 → (ccells l)[j]? = some v → w.cell? ⟨g, j, none⟩ = some v := fun j v hj hv => by
   rw [← h6, List.getElem?_take_of_lt hj] at hv
   simp [World.cell?, h2]
   simpa using hv
  unfold ConAt
  rw [Nat.zero_add]
  exact ⟨k _ _ (by omega) a, k _ _ (by omega) b, k _ _ (by omega) c, k _ _ (by omega) d, k _ _ (by omega) e⟩
theorem cown_other {w : World} {B : Nat} {v : Value} {l : List Con} (h : COwn B w v l) (k j : Nat) (x : Value) (hk : k < B) : COwn B (w.setCell ⟨k, j, none⟩ x) v l := by
 obtain ⟨h1, h2⟩ := h
 refine ⟨h1, ?_⟩
 rcases h2 with h2 | ⟨g, cap, cur, a, b, c, d⟩
 ·exact .inl h2
 ·exact .inr ⟨g, cap, cur, a, b, (heap_setCell_other w ⟨k, j, none⟩ g x (show g ≠ k by omega)).trans c, d⟩
theorem Tryz.infoCont : (Tryz.prog.info? 70).map (fun i => (i.zero, i.size, i.bytes)) = some (some (.agg #[.int .i64 0, .int .i64 0, .string ByteArray.empty, .int .i64 0, .int .i64 0]), 5, 48) := by kernel_rfl

set_option maxRecDepth 100000 in
set_option maxHeartbeats 2000000 in
theorem cloneCont_any (ao : Option Addr) (len cap : Nat) (l : List Con) (w : World) (h : ConRow w ao len l) (hl : len ≤ 1048576) :
  Calls Tryz.prog 166 #[.slice ao len cap] w fun e w' => ∃ v, e = .returned v ∧ COwn w.heap.size w' v l ∧ Below w.heap.size w w' := by
 obtain ⟨i0, hi, hz0, hz1, hz2⟩ := info_parts Tryz.infoCont
 cases ao with
 | none =>
  have hn : len = 0 := by rcases h.2 with h | ⟨b, off, e, _⟩; exact h; cases e
  subst hn
  have hl0 : l = [] := List.length_eq_zero_iff.1 h.1.symm
  subst hl0
  have hnl : ∀ wx, (binOp .eql 27 (.slice none 0 cap) (.slice none 0 0)).run Tryz.prog wx = .ok (.bool true) wx := fun wx => Lib.run_eql_slice_nil wx _ _ none 0 cap 0 0 Tryz.underlying27
  clear h hl
  go_enter Tryz.func166, Tryz.ntmps166
  go_wp2
  go_ret
  exact ⟨_, rfl, cown_nil _ _, Below.refl _ _⟩
 | some ad =>
  have hnew : ∀ j u, (ccells l)[j]? = some u → (w.alloc (.cells #[] 70)).cell? (ad.add j) = some u := fun j u hj => by
   have hjl : j < l.length * 5 := by rw [← ccells_len]; exact (List.getElem?_eq_some_iff.1 hj).1
   rcases h.2 with h0 | ⟨b, off, e, _⟩
   ·have := h.1; omega
   ·cases e
    have := ccells_row (h.below (below_al (Below.refl _ w) (.cells #[] 70))) j u hj
    rw [Lib.add_plain]
    exact this
  have HNW := hide hnew
  have HLN := hide h.1
  have hown := cown_empty w
  have hll : (ccells l).length = len * 5 := by rw [ccells_len, h.1]
  have hone := ccells_one l
  have hnl : ∀ wx, (binOp .eql 27 (.slice (some ad) len cap) (.slice none 0 0)).run Tryz.prog wx = .ok (.bool false) wx := fun wx => Lib.run_eql_slice_nil wx _ _ (some ad) len cap 0 0 Tryz.underlying27
  clear h hnew
  go_enter Tryz.func166, Tryz.ntmps166
  go_wp2_with (at_builtin; refine wpList_append_own _ rfl _ _ 27 rfl w.heap.size 70 i0 (.agg #[.int .i64 0, .int .i64 0, .string ByteArray.empty, .int .i64 0, .int .i64 0]) 5 48 Tryz.underlying27 hi hz0 hz1 hz2 rfl (by decide) _ _ _ rfl hown ad len cap (ccells l) rfl hll (unhide HNW) hone ?c3 ?c4 ?c5 ?_)
  case c3 => unfold maxLen; omega
  case c4 => omega
  case c5 => simp
  intro v' w3 hown' hgrow _
  have HO := hide (show COwn w.heap.size w3 v' l by
   unfold COwn
   rw [← unhide HLN]
   simpa using hown')
  have HB := hide (show Below w.heap.size w w3 from (below_al (Below.refl _ w) (.cells #[] 70)).grown hgrow (by simp) (fun k e => by simp [Value.ownBlock] at e; omega))
  clear hown' hgrow hown hone hll
  go_wp2
  go_ret
  exact ⟨_, rfl, unhide HO, unhide HB⟩
end Go.Proofs.YtbkchepelhkjlaaGreat

/-
 Lists of applications, by their heads that own their memory; the library's Clone of them (mkown.py wrote this); walks over the dump.
-/
namespace Go.Proofs.YtbkchepelhkjlaaGreat
open Go.RowKit
set_option linter.unusedVariables false
abbrev pcell (q : AV) : List Value := [.int .i64 q.id, .string (bs q.queue), .slice q.ao q.len q.cap]
def pcells : List AV → List Value
 | [] => []
 | q :: t => pcell q ++ pcells t
theorem pcells_app (a : List AV) (q : AV) : pcells (a ++ [q]) = pcells a ++ pcell q := by
 induction a with
 | nil => rfl
 | cons x t ih => rw [List.cons_append, pcells, pcells, ih, List.append_assoc]
theorem pcells_len : ∀ l : List AV, (pcells l).length = l.length * 3
 | [] => rfl
 | q :: t => by rw [pcells, List.length_append, pcells_len t]; simp; omega
theorem pcells_at : ∀ (l : List AV) (i : Nat) (h : i < l.length), (pcells l)[i * 3]? = some (.int .i64 l[i].id) ∧ (pcells l)[i * 3 + 1]? = some (.string (bs l[i].queue)) ∧ (pcells l)[i * 3 + 2]? = some (.slice l[i].ao l[i].len l[i].cap)
 | q :: t, 0, _ => ⟨rfl, rfl, rfl⟩
 | q :: t, i + 1, h => by
  have e := pcells_at t i (by simpa using h)
  have k : ∀ j, (pcells (q :: t))[(i + 1) * 3 + j]? = (pcells t)[i * 3 + j]? := fun j => by
   rw [pcells, show (i + 1) * 3 + j = (pcell q).length + (i * 3 + j) by simp; omega, List.getElem?_append_right (by omega)]
   congr 1
   omega
  have k0 := k 0
  simp only [Nat.add_zero] at k0
  rw [k0, k 1, k 2]
  simpa using e
theorem pcells_row {w : World} {b off len : Nat} {l : List AV} (h : AVRow w (some ⟨b, off, none⟩) len l) : ∀ j u, (pcells l)[j]? = some u → w.cell? ⟨b, off + j, none⟩ = some u := fun j u hj => by
 have hjl : j < l.length * 3 := by rw [← pcells_len]; exact (List.getElem?_eq_some_iff.1 hj).1
 obtain ⟨h1, h2⟩ := h
 rcases h2 with h2 | ⟨b', off', e, h4⟩
 ·omega
 ·cases e
  have hi : j / 3 < l.length := by omega
  obtain ⟨a0, a1, a2⟩ := pcells_at l (j / 3) hi
  obtain ⟨c0, c1, c2⟩ := h4 (j / 3) hi
  rcases (show j % 3 = 0 ∨ j % 3 = 1 ∨ j % 3 = 2 by omega) with e | e | e
  ·rw [show j = j / 3 * 3 by omega] at hj ⊢; rw [a0] at hj; cases hj; exact c0
  ·rw [show j = j / 3 * 3 + 1 by omega] at hj ⊢; rw [a1] at hj; cases hj; rw [← Nat.add_assoc]; exact c1
  ·rw [show j = j / 3 * 3 + 2 by omega] at hj ⊢; rw [a2] at hj; cases hj; rw [← Nat.add_assoc]; exact c2
theorem pcells_one : ∀ (l : List AV), ∀ u ∈ pcells l, u.oneCell' = true
 | [], u, h => by simp [pcells] at h
 | q :: t, u, h => by
  rw [pcells, List.mem_append] at h
  rcases h with h | h
  ·simp at h
   rcases h with rfl | rfl | rfl <;> rfl
  ·exact pcells_one t u h
/-- v is a list of these applications, by their heads, in memory of its own from block B on -/
def POwn (B : Nat) (w : World) (v : Value) (l : List AV) : Prop := w.ownsRow B 41 3 v l.length (pcells l)
theorem pown_nil (B : Nat) (w : World) : POwn B w (.slice none 0 0) [] := World.ownsRow_nil _ _ _ _
theorem pown_empty (w : World) : w.alloc (.cells #[] 41) |>.ownsRow w.heap.size 41 3 (.slice (some ⟨w.heap.size, 0, none⟩) 0 0) 0 [] :=
 ⟨rfl, .inr ⟨w.heap.size, 0, #[], rfl, Nat.le_refl _, by show (w.heap.push _)[w.heap.size]? = _; simp, Nat.le_refl _, by unfold maxLen; omega, rfl, rfl⟩⟩
theorem pown_below {w w' : World} {B : Nat} {v : Value} {l : List AV} (h : POwn B w v l) (hb : Below w.heap.size w w') : POwn B w' v l :=
 World.ownsRow.kept h (grownBy_below (grownBy_refl w none) hb) (by by_cases e : v.ownBlock = none; exact .inl e; exact .inr e)
theorem pown_base {w : World} {B B' : Nat} {v : Value} {l : List AV} (h : POwn B w v l) (hb : B' ≤ B) : POwn B' w v l := by
 obtain ⟨h1, h2⟩ := h
 refine ⟨h1, ?_⟩
 rcases h2 with h2 | ⟨g, cap, cur, a, b, c⟩
 ·exact .inl h2
 ·exact .inr ⟨g, cap, cur, a, Nat.le_trans hb b, c⟩
theorem pown_row {w : World} {B : Nat} {v : Value} {l : List AV} (h : POwn B w v l) : ∃ ao cap, v = .slice ao l.length cap ∧ AVRow w ao l.length l ∧ l.length ≤ cap ∧ (l ≠ [] → ∃ g cur, ao = some ⟨g, 0, none⟩ ∧ B ≤ g ∧ w.heap[g]? = some (.cells cur 41 (0, 0)) ∧ cur.size = cap * 3) := by
 rcases h.2 with ⟨rfl, h0⟩ | ⟨g, cap, cur, rfl, h1, h2, h3, h4, h5, h6⟩
 ·exact ⟨none, 0, by rw [h0], ⟨rfl, .inl h0⟩, by omega, fun hn => absurd (List.length_eq_zero_iff.1 h0) hn⟩
 ·refine ⟨some ⟨g, 0, none⟩, cap, rfl, ⟨rfl, .inr ⟨g, 0, rfl, fun i hi => ?_⟩⟩, h3, fun _ => ⟨g, cur, rfl, h1, h2, h5⟩⟩
  obtain ⟨a, b, c⟩ := pcells_at l i hi
  have k : ∀ j (v : Value), j < l.length * 3 → (pcells l)[j]? = some v → w.cell? ⟨g, j, none⟩ = some v := fun j v hj hv => by
   rw [← h6, List.getElem?_take_of_lt hj] at hv
   simp [World.cell?, h2]
   simpa using hv
  unfold AVAt
  rw [Nat.zero_add]
  exact ⟨k _ _ (by omega) a, k _ _ (by omega) b, k _ _ (by omega) c⟩
theorem pown_other {w : World} {B : Nat} {v : Value} {l : List AV} (h : POwn B w v l) (k j : Nat) (x : Value) (hk : k < B) : POwn B (w.setCell ⟨k, j, none⟩ x) v l := by
 obtain ⟨h1, h2⟩ := h
 refine ⟨h1, ?_⟩
 rcases h2 with h2 | ⟨g, cap, cur, a, b, c, d⟩
 ·exact .inl h2
 ·exact .inr ⟨g, cap, cur, a, b, (heap_setCell_other w ⟨k, j, none⟩ g x (show g ≠ k by omega)).trans c, d⟩
theorem Tryz.infoApp : (Tryz.prog.info? 41).map (fun i => (i.zero, i.size, i.bytes)) = some (some (.agg #[.int .i64 0, .string ByteArray.empty, .slice none 0 0]), 3, 48) := by kernel_rfl

set_option maxRecDepth 100000 in
set_option maxHeartbeats 2000000 in
theorem cloneApp_any (ao : Option Addr) (len cap : Nat) (l : List AV) (w : World) (h : AVRow w ao len l) (hl : len ≤ 1048576) :
  Calls Tryz.prog 135 #[.slice ao len cap] w fun e w' => ∃ v, e = .returned v ∧ POwn w.heap.size w' v l ∧ Below w.heap.size w w' := by
 obtain ⟨i0, hi, hz0, hz1, hz2⟩ := info_parts Tryz.infoApp
 cases ao with
 | none =>
  have hn : len = 0 := by rcases h.2 with h | ⟨b, off, e, _⟩; exact h; cases e
  subst hn
  have hl0 : l = [] := List.length_eq_zero_iff.1 h.1.symm
  subst hl0
  have hnl : ∀ wx, (binOp .eql 25 (.slice none 0 cap) (.slice none 0 0)).run Tryz.prog wx = .ok (.bool true) wx := fun wx => Lib.run_eql_slice_nil wx _ _ none 0 cap 0 0 Tryz.underlying25
  clear h hl
  go_enter Tryz.func135, Tryz.ntmps135
  go_wp2
  go_ret
  exact ⟨_, rfl, pown_nil _ _, Below.refl _ _⟩
 | some ad =>
  have hnew : ∀ j u, (pcells l)[j]? = some u → (w.alloc (.cells #[] 41)).cell? (ad.add j) = some u := fun j u hj => by
   have hjl : j < l.length * 3 := by rw [← pcells_len]; exact (List.getElem?_eq_some_iff.1 hj).1
   rcases h.2 with h0 | ⟨b, off, e, _⟩
   ·have := h.1; omega
   ·cases e
    have := pcells_row (h.below (below_al (Below.refl _ w) (.cells #[] 41))) j u hj
    rw [Lib.add_plain]
    exact this
  have HNW := hide hnew
  have HLN := hide h.1
  have hown := pown_empty w
  have hll : (pcells l).length = len * 3 := by rw [pcells_len, h.1]
  have hone := pcells_one l
  have hnl : ∀ wx, (binOp .eql 25 (.slice (some ad) len cap) (.slice none 0 0)).run Tryz.prog wx = .ok (.bool false) wx := fun wx => Lib.run_eql_slice_nil wx _ _ (some ad) len cap 0 0 Tryz.underlying25
  clear h hnew
  go_enter Tryz.func135, Tryz.ntmps135
  go_wp2_with (at_builtin; refine wpList_append_own _ rfl _ _ 25 rfl w.heap.size 41 i0 (.agg #[.int .i64 0, .string ByteArray.empty, .slice none 0 0]) 3 48 Tryz.underlying25 hi hz0 hz1 hz2 rfl (by decide) _ _ _ rfl hown ad len cap (pcells l) rfl hll (unhide HNW) hone ?c3 ?c4 ?c5 ?_)
  case c3 => unfold maxLen; omega
  case c4 => omega
  case c5 => simp
  intro v' w3 hown' hgrow _
  have HO := hide (show POwn w.heap.size w3 v' l by
   unfold POwn
   rw [← unhide HLN]
   simpa using hown')
  have HB := hide (show Below w.heap.size w w3 from (below_al (Below.refl _ w) (.cells #[] 41)).grown hgrow (by simp) (fun k e => by simp [Value.ownBlock] at e; omega))
  clear hown' hgrow hown hone hll
  go_wp2
  go_ret
  exact ⟨_, rfl, unhide HO, unhide HB⟩
end Go.Proofs.YtbkchepelhkjlaaGreat
