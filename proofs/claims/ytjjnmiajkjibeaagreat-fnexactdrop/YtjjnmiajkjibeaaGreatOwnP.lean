/-
  Lists of applications, by their heads that own their memory; the library's Clone of them (mkown.py wrote this); walks over the dump.
-/
import Derived.Test.YtjjnmiajkjibeaaGreatStAll
import Derived.Test.YtjjnmiajkjibeaaGreatPackD
import Derived.Test.YtjjnmiajkjibeaaGreatPackF
import Derived.Laws.AppendOwn
import Derived.Lib.SliceRun
import Derived.Deep.RegionWith
namespace Go.Proofs.YtjjnmiajkjibeaaGreat
open Go.RowKit
set_option linter.unusedVariables false

abbrev pcell (q : AV) : List Value := [.int .i64 q.id, .string (bs q.queue), .slice q.ao q.len q.cap]
def pcells : List AV → List Value
  | [] => []
  | q :: t => pcell q ++ pcells t
theorem pcells_app (a : List AV) (q : AV) : pcells (a ++ [q]) = pcells a ++ pcell q := by
  induction a with
  | nil => rfl
  | cons x t ih => rw [List.cons_append, pcells, pcells, ih, List.append_assoc]
theorem pcells_len : ∀ l : List AV, (pcells l).length = l.length * 3
  | [] => rfl
  | q :: t => by rw [pcells, List.length_append, pcells_len t]; simp; omega
theorem pcells_at : ∀ (l : List AV) (i : Nat) (h : i < l.length), (pcells l)[i * 3]? = some (.int .i64 l[i].id) ∧ (pcells l)[i * 3 + 1]? = some (.string (bs l[i].queue)) ∧ (pcells l)[i * 3 + 2]? = some (.slice l[i].ao l[i].len l[i].cap)
  | q :: t, 0, _ => ⟨rfl, rfl, rfl⟩
  | q :: t, i + 1, h => by
    have e := pcells_at t i (by simpa using h)
    have k : ∀ j, (pcells (q :: t))[(i + 1) * 3 + j]? = (pcells t)[i * 3 + j]? := fun j => by
      rw [pcells, show (i + 1) * 3 + j = (pcell q).length + (i * 3 + j) by simp; omega, List.getElem?_append_right (by omega)]
      congr 1
      omega
    have k0 := k 0
    simp only [Nat.add_zero] at k0
    rw [k0, k 1, k 2]
    simpa using e
theorem pcells_row {w : World} {b off len : Nat} {l : List AV} (h : AVRow w (some ⟨b, off, none⟩) len l) : ∀ j u, (pcells l)[j]? = some u → w.cell? ⟨b, off + j, none⟩ = some u := fun j u hj => by
  have hjl : j < l.length * 3 := by rw [← pcells_len]; exact (List.getElem?_eq_some_iff.1 hj).1
  obtain ⟨h1, h2⟩ := h
  rcases h2 with h2 | ⟨b', off', e, h4⟩
  · omega
  · cases e
    have hi : j / 3 < l.length := by omega
    obtain ⟨a0, a1, a2⟩ := pcells_at l (j / 3) hi
    obtain ⟨c0, c1, c2⟩ := h4 (j / 3) hi
    rcases (show j % 3 = 0 ∨ j % 3 = 1 ∨ j % 3 = 2 by omega) with e | e | e
    · rw [show j = j / 3 * 3 by omega] at hj ⊢; rw [a0] at hj; cases hj; exact c0
    · rw [show j = j / 3 * 3 + 1 by omega] at hj ⊢; rw [a1] at hj; cases hj; rw [← Nat.add_assoc]; exact c1
    · rw [show j = j / 3 * 3 + 2 by omega] at hj ⊢; rw [a2] at hj; cases hj; rw [← Nat.add_assoc]; exact c2
theorem pcells_one : ∀ (l : List AV), ∀ u ∈ pcells l, u.oneCell' = true
  | [], u, h => by simp [pcells] at h
  | q :: t, u, h => by
    rw [pcells, List.mem_append] at h
    rcases h with h | h
    · simp at h
      rcases h with rfl | rfl | rfl <;> rfl
    · exact pcells_one t u h
/-- v is a list of these applications, by their heads, in memory of its own from block B on -/
def POwn (B : Nat) (w : World) (v : Value) (l : List AV) : Prop := w.ownsRow B 95 3 v l.length (pcells l)
theorem pown_nil (B : Nat) (w : World) : POwn B w (.slice none 0 0) [] := World.ownsRow_nil _ _ _ _
theorem pown_empty (w : World) : w.alloc (.cells #[] 95) |>.ownsRow w.heap.size 95 3 (.slice (some ⟨w.heap.size, 0, none⟩) 0 0) 0 [] :=
  ⟨rfl, .inr ⟨w.heap.size, 0, #[], rfl, Nat.le_refl _, by show (w.heap.push _)[w.heap.size]? = _; simp, Nat.le_refl _, by unfold maxLen; omega, rfl, rfl⟩⟩
theorem pown_below {w w' : World} {B : Nat} {v : Value} {l : List AV} (h : POwn B w v l) (hb : Below w.heap.size w w') : POwn B w' v l :=
  World.ownsRow.kept h (grownBy_below (grownBy_refl w none) hb) (by by_cases e : v.ownBlock = none; exact .inl e; exact .inr e)
theorem pown_base {w : World} {B B' : Nat} {v : Value} {l : List AV} (h : POwn B w v l) (hb : B' ≤ B) : POwn B' w v l := by
  obtain ⟨h1, h2⟩ := h
  refine ⟨h1, ?_⟩
  rcases h2 with h2 | ⟨g, cap, cur, a, b, c⟩
  · exact .inl h2
  · exact .inr ⟨g, cap, cur, a, Nat.le_trans hb b, c⟩
theorem pown_row {w : World} {B : Nat} {v : Value} {l : List AV} (h : POwn B w v l) : ∃ ao cap, v = .slice ao l.length cap ∧ AVRow w ao l.length l ∧ l.length ≤ cap ∧ (l ≠ [] → ∃ g cur, ao = some ⟨g, 0, none⟩ ∧ B ≤ g ∧ w.heap[g]? = some (.cells cur 95 (0, 0)) ∧ cur.size = cap * 3) := by
  rcases h.2 with ⟨rfl, h0⟩ | ⟨g, cap, cur, rfl, h1, h2, h3, h4, h5, h6⟩
  · exact ⟨none, 0, by rw [h0], ⟨rfl, .inl h0⟩, by omega, fun hn => absurd (List.length_eq_zero_iff.1 h0) hn⟩
  · refine ⟨some ⟨g, 0, none⟩, cap, rfl, ⟨rfl, .inr ⟨g, 0, rfl, fun i hi => ?_⟩⟩, h3, fun _ => ⟨g, cur, rfl, h1, h2, h5⟩⟩
    obtain ⟨a, b, c⟩ := pcells_at l i hi
    have k : ∀ j (v : Value), j < l.length * 3 → (pcells l)[j]? = some v → w.cell? ⟨g, j, none⟩ = some v := fun j v hj hv => by
      rw [← h6, List.getElem?_take_of_lt hj] at hv
      simp [World.cell?, h2]
      simpa using hv
    unfold AVAt
    rw [Nat.zero_add]
    exact ⟨k _ _ (by omega) a, k _ _ (by omega) b, k _ _ (by omega) c⟩
theorem pown_same {w : World} {B g n cap j : Nat} {x : Value} {l : List AV} (h : POwn B w (.slice (some ⟨g, 0, none⟩) n cap) l) (hc : w.cell? ⟨g, j, none⟩ = some x) : POwn B (w.setCell ⟨g, j, none⟩ x) (.slice (some ⟨g, 0, none⟩) n cap) l ∧ B ≤ g := by
  obtain ⟨h1, h2⟩ := h
  rcases h2 with ⟨e, _⟩ | ⟨g', cap', cur, e, h3, h4, h5⟩
  · cases e
  · cases e
    have hx : cur[j]? = some x := by simpa [World.cell?, h4] using hc
    have hid : cur.setIfInBounds j x = cur := by
      apply Array.ext
      · simp
      · intro i h1 h2
        rw [Array.getElem_setIfInBounds]
        split
        · rename_i e
          subst e
          rw [Array.getElem?_eq_getElem h2] at hx
          exact (Option.some.inj hx).symm
        · rfl
    refine ⟨⟨h1, .inr ⟨g, cap, cur, rfl, h3, ?_, h5⟩⟩, h3⟩
    have := heap_setCell_same w g j _ _ x h4
    rw [hid] at this
    exact this
theorem pown_other {w : World} {B : Nat} {v : Value} {l : List AV} (h : POwn B w v l) (k j : Nat) (x : Value) (hk : k < B) : POwn B (w.setCell ⟨k, j, none⟩ x) v l := by
  obtain ⟨h1, h2⟩ := h
  refine ⟨h1, ?_⟩
  rcases h2 with h2 | ⟨g, cap, cur, a, b, c, d⟩
  · exact .inl h2
  · exact .inr ⟨g, cap, cur, a, b, (heap_setCell_other w ⟨k, j, none⟩ g x (show g ≠ k by omega)).trans c, d⟩
theorem Tryz.infoApp : (Tryz.prog.info? 95).map (fun i => (i.zero, i.size, i.bytes)) = some (some (.agg #[.int .i64 0, .string ByteArray.empty, .slice none 0 0]), 3, 48) := by kernel_rfl

set_option maxRecDepth 100000 in
set_option maxHeartbeats 2000000 in
theorem cloneApp_any (ao : Option Addr) (len cap : Nat) (l : List AV) (w : World) (h : AVRow w ao len l) (hl : len ≤ 1048576) :
    Calls Tryz.prog 68 #[.slice ao len cap] w fun e w' => ∃ v, e = .returned v ∧ POwn w.heap.size w' v l ∧ Below w.heap.size w w' := by
  obtain ⟨i0, hi, hz0, hz1, hz2⟩ := info_parts Tryz.infoApp
  cases ao with
  | none =>
    have hn : len = 0 := by rcases h.2 with h | ⟨b, off, e, _⟩; exact h; cases e
    subst hn
    have hl0 : l = [] := List.length_eq_zero_iff.1 h.1.symm
    subst hl0
    have hnl : ∀ wx, (binOp .eql 31 (.slice none 0 cap) (.slice none 0 0)).run Tryz.prog wx = .ok (.bool true) wx := fun wx => Lib.run_eql_slice_nil wx _ _ none 0 cap 0 0 Tryz.underlying31
    clear h hl
    go_enter Tryz.func68, Tryz.ntmps68
    go_wp2
    go_ret
    exact ⟨_, rfl, pown_nil _ _, Below.refl _ _⟩
  | some ad =>
    have hnew : ∀ j u, (pcells l)[j]? = some u → (w.alloc (.cells #[] 95)).cell? (ad.add j) = some u := fun j u hj => by
      have hjl : j < l.length * 3 := by rw [← pcells_len]; exact (List.getElem?_eq_some_iff.1 hj).1
      rcases h.2 with h0 | ⟨b, off, e, _⟩
      · have := h.1; omega
      · cases e
        have := pcells_row (h.below (below_al (Below.refl _ w) (.cells #[] 95))) j u hj
        rw [Lib.add_plain]
        exact this
    have HNW := hide hnew
    have HLN := hide h.1
    have hown := pown_empty w
    have hll : (pcells l).length = len * 3 := by rw [pcells_len, h.1]
    have hone := pcells_one l
    have hnl : ∀ wx, (binOp .eql 31 (.slice (some ad) len cap) (.slice none 0 0)).run Tryz.prog wx = .ok (.bool false) wx := fun wx => Lib.run_eql_slice_nil wx _ _ (some ad) len cap 0 0 Tryz.underlying31
    clear h hnew
    go_enter Tryz.func68, Tryz.ntmps68
    go_wp2_with (at_builtin; refine wpList_append_own _ rfl _ _ 31 rfl w.heap.size 95 i0 (.agg #[.int .i64 0, .string ByteArray.empty, .slice none 0 0]) 3 48 Tryz.underlying31 hi hz0 hz1 hz2 rfl (by decide) _ _ _ rfl hown ad len cap (pcells l) rfl hll (unhide HNW) hone ?c3 ?c4 ?c5 ?_)
    case c3 => unfold maxLen; omega
    case c4 => omega
    case c5 => simp
    intro v' w3 hown' hgrow _
    have HO := hide (show POwn w.heap.size w3 v' l by
      unfold POwn
      rw [← unhide HLN]
      simpa using hown')
    have HB := hide (show Below w.heap.size w w3 from (below_al (Below.refl _ w) (.cells #[] 95)).grown hgrow (by simp) (fun k e => by simp [Value.ownBlock] at e; omega))
    clear hown' hgrow hown hone hll
    go_wp2
    go_ret
    exact ⟨_, rfl, unhide HO, unhide HB⟩
end Go.Proofs.YtjjnmiajkjibeaaGreat
