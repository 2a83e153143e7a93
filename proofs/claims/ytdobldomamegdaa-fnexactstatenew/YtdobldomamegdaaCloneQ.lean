/-
  Lists of queues copied: the library's Clone of queues, copyOfQueues; walks over the dump.
-/
import Derived.Test.YtdobldomamegdaaPackA
import Derived.Test.YtdobldomamegdaaStAll
import Derived.Test.YtdobldomamegdaaClone
import Derived.Test.YtdobldomamegdaaHeldK
import Derived.Laws.AppendOwn
import Derived.Lib.SliceRun
import Derived.Deep.RegionWith
namespace Go.Proofs.Ytdobldomamegdaa
open Go.RowKit
set_option linter.unusedVariables false

theorem qcells_row {w : World} {b off len : Nat} {l : List Q} (h : QRow w (some ⟨b, off, none⟩) len l) : ∀ j u, (qcells l)[j]? = some u → w.cell? ⟨b, off + j, none⟩ = some u := fun j u hj => by
  have hjl : j < l.length * 4 := by rw [← qcells_len]; exact (List.getElem?_eq_some_iff.1 hj).1
  obtain ⟨h1, h2⟩ := h
  rcases h2 with h2 | ⟨b', off', e, h4⟩
  · omega
  · cases e
    have hi : j / 4 < l.length := by omega
    obtain ⟨a0, a1, a2, a3⟩ := qcells_at l (j / 4) hi
    obtain ⟨c0, c1, c2, c3⟩ := h4 (j / 4) hi
    rcases (show j % 4 = 0 ∨ j % 4 = 1 ∨ j % 4 = 2 ∨ j % 4 = 3 by omega) with e | e | e | e
    · rw [show j = j / 4 * 4 by omega] at hj ⊢; rw [a0] at hj; cases hj; exact c0
    · rw [show j = j / 4 * 4 + 1 by omega] at hj ⊢; rw [a1] at hj; cases hj; rw [← Nat.add_assoc]; exact c1
    · rw [show j = j / 4 * 4 + 2 by omega] at hj ⊢; rw [a2] at hj; cases hj; rw [← Nat.add_assoc]; exact c2
    · rw [show j = j / 4 * 4 + 3 by omega] at hj ⊢; rw [a3] at hj; cases hj; rw [← Nat.add_assoc]; exact c3
theorem qcells_one : ∀ (l : List Q), ∀ u ∈ qcells l, u.oneCell' = true
  | [], u, h => by simp [qcells] at h
  | q :: t, u, h => by
    rw [qcells, List.mem_append] at h
    rcases h with h | h
    · simp at h
      rcases h with rfl | rfl | rfl | rfl <;> rfl
    · exact qcells_one t u h
theorem qown_base {w : World} {B B' : Nat} {v : Value} {l : List Q} (h : QOwn B w v l) (hb : B' ≤ B) : QOwn B' w v l := by
  obtain ⟨h1, h2⟩ := h
  refine ⟨h1, ?_⟩
  rcases h2 with h2 | ⟨g, cap, cur, a, b, c⟩
  · exact .inl h2
  · exact .inr ⟨g, cap, cur, a, Nat.le_trans hb b, c⟩
theorem qown_rowx {w : World} {B : Nat} {v : Value} {l : List Q} (h : QOwn B w v l) : ∃ ao cap, v = .slice ao l.length cap ∧ QRow w ao l.length l ∧ l.length ≤ cap ∧ (l ≠ [] → ∃ g cur, ao = some ⟨g, 0, none⟩ ∧ B ≤ g ∧ w.heap[g]? = some (.cells cur 42 (0, 0)) ∧ cur.size = cap * 4) := by
  obtain ⟨ao, cap, e, hr, hc⟩ := h.row
  refine ⟨ao, cap, e, hr, hc, fun hn => ?_⟩
  rcases h.2 with ⟨rfl, h0⟩ | ⟨g, cap', cur, rfl, h1, h2, h3, h4, h5, h6⟩
  · exact absurd (List.length_eq_zero_iff.1 h0) hn
  · simp only [Value.slice.injEq] at e
    obtain ⟨rfl, _, rfl⟩ := e
    exact ⟨g, cur, rfl, h1, h2, h5⟩
set_option maxRecDepth 100000 in
set_option maxHeartbeats 2000000 in
theorem cloneQ_any (ao : Option Addr) (len cap : Nat) (l : List Q) (w : World) (h : QRow w ao len l) (hl : len ≤ 1048576) :
    Calls Try.prog 42 #[.slice ao len cap] w fun e w' => ∃ v, e = .returned v ∧ QOwn w.heap.size w' v l ∧ Below w.heap.size w w' := by
  obtain ⟨i0, hi, hz0, hz1, hz2⟩ := info_parts Try.infoQ
  cases ao with
  | none =>
    have hn : len = 0 := by rcases h.2 with h | ⟨b, off, e, _⟩; exact h; cases e
    subst hn
    have hl0 : l = [] := List.length_eq_zero_iff.1 h.1.symm
    subst hl0
    have hnl : ∀ wx, (binOp .eql 24 (.slice none 0 cap) (.slice none 0 0)).run Try.prog wx = .ok (.bool true) wx := fun wx => Lib.run_eql_slice_nil wx _ _ none 0 cap 0 0 Try.underlying24
    clear h hl
    go_enter Try.func42, Try.ntmps42
    go_wp2
    go_ret
    exact ⟨_, rfl, qown_nil _ _, Below.refl _ _⟩
  | some ad =>
    have hnew : ∀ j u, (qcells l)[j]? = some u → (w.alloc (.cells #[] 42)).cell? (ad.add j) = some u := fun j u hj => by
      have hjl : j < l.length * 4 := by rw [← qcells_len]; exact (List.getElem?_eq_some_iff.1 hj).1
      rcases h.2 with h0 | ⟨b, off, e, _⟩
      · have := h.1; omega
      · cases e
        have := qcells_row (h.below (below_al (Below.refl _ w) (.cells #[] 42))) j u hj
        rw [Lib.add_plain]
        exact this
    have HNW := hide hnew
    have HLN := hide h.1
    have hown : (w.alloc (.cells #[] 42)).ownsRow w.heap.size 42 4 (.slice (some ⟨w.heap.size, 0, none⟩) 0 0) 0 [] := qown_empty w
    have hll : (qcells l).length = len * 4 := by rw [qcells_len, h.1]
    have hone := qcells_one l
    have hnl : ∀ wx, (binOp .eql 24 (.slice (some ad) len cap) (.slice none 0 0)).run Try.prog wx = .ok (.bool false) wx := fun wx => Lib.run_eql_slice_nil wx _ _ (some ad) len cap 0 0 Try.underlying24
    clear h hnew
    go_enter Try.func42, Try.ntmps42
    go_wp2_with (at_builtin; refine wpList_append_own _ rfl _ _ 24 rfl w.heap.size 42 i0 (.agg #[.string ByteArray.empty, .string ByteArray.empty, .int .i64 0, .int .i64 0]) 4 48 Try.underlying24 hi hz0 hz1 hz2 rfl (by decide) _ _ _ rfl hown ad len cap (qcells l) rfl hll (unhide HNW) hone ?c3 ?c4 ?c5 ?_)
    case c3 => unfold maxLen; omega
    case c4 => omega
    case c5 => simp
    intro v' w3 hown' hgrow _
    have HO := hide (show QOwn w.heap.size w3 v' l by
      unfold QOwn
      rw [← unhide HLN]
      exact hown')
    have HB := hide (show Below w.heap.size w w3 from (below_al (Below.refl _ w) (.cells #[] 42)).grown hgrow (by simp) (fun k e => by simp [Value.ownBlock] at e; omega))
    clear hown' hgrow hown hone hll
    go_wp2
    go_ret
    exact ⟨_, rfl, unhide HO, unhide HB⟩
theorem set_idemQ {arr : Array Value} {j : Nat} {x : Value} (h : arr[j]? = some x) : arr.setIfInBounds j x = arr := by
  apply Array.ext
  · simp
  · intro i h1 h2
    rw [Array.getElem_setIfInBounds]
    split
    · rename_i e
      subst e
      rw [Array.getElem?_eq_getElem h2] at h
      exact (Option.some.inj h).symm
    · rfl
/-- a cell that is written with what stands there -/
theorem qown_same {w : World} {B g n cap j : Nat} {x : Value} {l : List Q} (h : QOwn B w (.slice (some ⟨g, 0, none⟩) n cap) l) (hc : w.cell? ⟨g, j, none⟩ = some x) : QOwn B (w.setCell ⟨g, j, none⟩ x) (.slice (some ⟨g, 0, none⟩) n cap) l ∧ B ≤ g := by
  obtain ⟨h1, h2⟩ := h
  rcases h2 with ⟨e, _⟩ | ⟨g', cap', cur, e, h3, h4, h5⟩
  · cases e
  · cases e
    have hx : cur[j]? = some x := by simpa [World.cell?, h4] using hc
    refine ⟨⟨h1, .inr ⟨g, cap, cur, rfl, h3, ?_, h5⟩⟩, h3⟩
    have := heap_setCell_same w g j _ _ x h4
    rw [set_idemQ hx] at this
    exact this
theorem qown_other {w : World} {B : Nat} {v : Value} {l : List Q} (h : QOwn B w v l) (k j : Nat) (x : Value) (hk : k < B) : QOwn B (w.setCell ⟨k, j, none⟩ x) v l := by
  obtain ⟨h1, h2⟩ := h
  refine ⟨h1, ?_⟩
  rcases h2 with h2 | ⟨g, cap, cur, a, b, c, d⟩
  · exact .inl h2
  · exact .inr ⟨g, cap, cur, a, b, (heap_setCell_other w ⟨k, j, none⟩ g x (show g ≠ k by omega)).trans c, d⟩

set_option maxRecDepth 100000 in
set_option maxHeartbeats 4000000 in
theorem copyOfQueues_any (ao : Option Addr) (len cap : Nat) (l : List Q) (w : World) (h : QRow w ao len l) (hl : len ≤ 1048576) (hn : ∀ q ∈ l, q.name.length ≤ 1048576 ∧ q.parent.length ≤ 1048576) :
    Calls Try.prog 17 #[.slice ao len cap] w fun e w' => ∃ v, e = .returned v ∧ QOwn w.heap.size w' v l ∧ Below w.heap.size w w' := by
  have HN := hide hn
  have CC := hide (cloneQ_any ao len cap l w h hl)
  have hll := hide h.1
  clear h hn
  go_enter Try.func17, Try.ntmps17
  go_wp2_with fail
  refine (unhide CC).mono ?_
  rintro e w1 ⟨v, rfl, ho, hb⟩
  have HB1 := hide hb
  have HO := hide ho
  obtain ⟨xo, xc, rfl, _, hxc, hxg⟩ := (qown_rowx ho)
  obtain ⟨n, hnn⟩ : ∃ n, l.length = n := ⟨_, rfl⟩
  have HLN := hide hnn
  have hn2 : n ≤ 1048576 := by have := unhide hll; omega
  rw [hnn] at HO hxc ⊢
  clear ho hb CC hnn hxg
  go_wp2
  go_loopw [9] (fun i wr => ∃ (k : Nat), k ≤ n ∧ i = .int .i64 k ∧ Hid (QOwn w.heap.size wr (.slice xo n xc) l) ∧ Hid (Below w.heap.size w wr)) (fun i _ => n - (intOf i).toNat)
  case atStart => exact ⟨0, Nat.zero_le _, rfl, HO, HB1⟩
  case round =>
    obtain ⟨k, hk, rfl, HOr, HBr⟩ := hrel
    by_cases hlt : k < n
    · have hkl : k < l.length := by have := unhide HLN; omega
      obtain ⟨xo', xc', e, hrow, _, hg⟩ := (qown_rowx (unhide HOr))
      obtain ⟨g, cur, rfl, hg1, hg2, hg3⟩ := hg (by intro e; rw [e] at hkl; simp at hkl)
      rw [unhide HLN] at e hrow
      cases e
      obtain ⟨b', off', e', hat⟩ := hrow.at hlt
      cases e'
      have c0 := (hat hkl).1
      have c1 := (hat hkl).2.1
      simp only [Nat.zero_add] at c0 c1
      have hnd := unhide HN l[k] (List.getElem_mem _)
      obtain ⟨⟨na, pa, du, mo⟩, hs⟩ : ∃ s, l[k] = s := ⟨_, rfl⟩
      rw [hs] at c0 c1 hnd
      simp only at c0 c1 hnd
      have hs1 : (bs na).size ≤ 281474976710656 := by rw [bs_size]; omega
      have hs2 : (bs pa).size ≤ 281474976710656 := by rw [bs_size]; omega
      have k0 : (0 : Int) ≤ k := by omega
      have k1 : (k : Int) < n := by omega
      have hgs : g < wr.heap.size := lt_of_block hg2
      clear hat hrow hg2 hg3 hs hkl hnd
      go_wp2_with fail
      refine (clone_any (bs na) _ hs1).mono ?_
      rintro e w2 ⟨rfl, hb⟩
      have HO2 := hide ((unhide HOr).below hb)
      have c0' := (hb.cell (p := ⟨g, k * 4, none⟩) hgs).trans c0
      have c1' := (hb.cell (p := ⟨g, k * 4 + 1, none⟩) hgs).trans c1
      have hsame := (qown_same (unhide HO2) c0')
      have hfz : ∀ j, w2.frozen? ⟨g, j, none⟩ = false := fun j => by
        rcases (unhide HO2).2 with ⟨e, _⟩ | ⟨g', cap', cur', e, _, h4, _⟩
        · cases e
        · cases e; simp [World.frozen?, h4]
      have f0 := hfz (k * 4)
      have HB2 := hide (show Below w.heap.size w (w2.setCell ⟨g, k * 4, none⟩ (.string (bs na))) from (below_on (unhide HBr) hb).setCell (by exact hsame.2) _)
      have hg2' : g < w2.heap.size := Nat.lt_of_lt_of_le hgs hb.size
      have d1 : (w2.setCell ⟨g, k * 4, none⟩ (.string (bs na))).cell? ⟨g, k * 4 + 1, none⟩ = some (.string (bs pa)) := cell_keep c1' (by omega)
      have HS := hide hsame
      obtain ⟨W3, hW3⟩ : ∃ W, w2.setCell ⟨g, k * 4, none⟩ (.string (bs na)) = W := ⟨_, rfl⟩
      rw [hW3] at HB2 d1 HS
      have hgW : g < W3.heap.size := cell_lt d1
      clear hb hsame HOr HBr HO2 c0 c1 c1' hfz
      go_wp2_with fail
      refine (clone_any (bs pa) _ hs2).mono ?_
      rintro e w4 ⟨rfl, hb⟩
      have HO4 := hide ((unhide HS).1.below hb)
      have d1' := (hb.cell (p := ⟨g, k * 4 + 1, none⟩) hgW).trans d1
      have hsame := (qown_same (unhide HO4) d1')
      have f1 : w4.frozen? ⟨g, k * 4 + 1, none⟩ = false := by
        rcases (unhide HO4).2 with ⟨e, _⟩ | ⟨g', cap', cur', e, _, h4, _⟩
        · cases e
        · cases e; simp [World.frozen?, h4]
      have HB4 := hide (show Below w.heap.size w (w4.setCell ⟨g, k * 4 + 1, none⟩ (.string (bs pa))) from (below_on (unhide HB2) hb).setCell (by exact hsame.2) _)
      have HS4 := hide hsame.1
      clear hb hsame HS HO4 HB2 c0' d1 hW3 f0
      go_wp2
      go_roundw
      case rel => exact ⟨k + 1, by omega, by go_num, HS4, HB4⟩
      case measure => simp [intOf]; omega
    · have k1 : ¬ (k : Int) < n := by omega
      go_wp2
      go_ret
      exact ⟨_, rfl, unhide HOr, unhide HBr⟩
end Go.Proofs.Ytdobldomamegdaa
