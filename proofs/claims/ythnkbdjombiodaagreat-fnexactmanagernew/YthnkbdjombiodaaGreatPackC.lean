/-
  Several texts of this claim in one: Clone, HeldK, CloneQ, HeldQ, MarkZ (pack.py put them together); each says in its own remark what is proved.
-/
import Derived.Test.YthnkbdjombiodaaGreatRows
import Derived.Test.YthnkbdjombiodaaGreatShelf
import Derived.WalkKit
import Derived.Test.YthnkbdjombiodaaGreatPackA
import Derived.Test.YthnkbdjombiodaaGreatStAll
import Derived.Laws.AppendOwn
import Derived.Lib.SliceRun
import Derived.Deep.RegionWith
import Derived.Test.YthnkbdjombiodaaGreatPackB
/-
  What strings.Clone answers: the same text.
-/
namespace Go.Proofs.YthnkbdjombiodaaGreat
open Go.RowKit

set_option maxHeartbeats 400000 in
theorem clone_any (s : ByteArray) (w : World) (hs : s.size ≤ 281474976710656) :
    Calls Tryz.prog 54 #[.string s] w fun e w' => e = .returned (.string s) ∧ Below w.heap.size w w' := by
  go_enter Tryz.func54, Tryz.ntmps54
  go_wp2_with fail
  refine (Tryz.stringslite_Clone s _ hs).mono ?_
  rintro e w1 ⟨rfl, hb⟩
  have HB : Hid (Below w.heap.size w w1) := hb
  clear hb
  go_wp2
  go_ret
  exact ⟨rfl, HB⟩
end Go.Proofs.YthnkbdjombiodaaGreat

/-
  Words on worlds that calls and stores behind them keep; all that was there stands.
-/
namespace Go.Proofs.YthnkbdjombiodaaGreat
open Go.RowKit
set_option linter.unusedVariables false

/-- what a word on worlds bears -/
structure Holds (S : World → Prop) (w0 : World) (n : Nat) : Prop where
  call : ∀ {wx wy : World}, S wx → Below wx.heap.size wx wy → S wy
  set : ∀ {wx : World} (k j : Nat) (v : Value), S wx → n ≤ k → S (wx.setCell ⟨k, j, none⟩ v)
  size : ∀ {wx : World}, S wx → n ≤ wx.heap.size
  below : ∀ {wx : World}, S wx → Below w0.heap.size w0 wx
theorem Holds.drew {S : World → Prop} {w0 : World} {n : Nat} (h : Holds S w0 n) {wx : World} (hs : S wx) : S wx.drew := h.call hs (Below.refl _ _).drew
theorem Holds.al {S : World → Prop} {w0 : World} {n : Nat} (h : Holds S w0 n) {wx : World} (hs : S wx) (o : Obj) : S (wx.alloc o) := h.call hs (below_al (Below.refl _ _) o)
theorem Holds.set2 {S : World → Prop} {w0 : World} {n : Nat} (h : Holds S w0 n) {wx : World} (hs : S wx) (k : Nat) (a b : Value) (hk : n ≤ k) : S ((wx.setCell ⟨k, 0, none⟩ a).setCell ⟨k, 1, none⟩ b) := h.set k 1 b (h.set k 0 a hs hk) hk
/-- all that was there stands -/
def Kp (w1 wx : World) : Prop := Below w1.heap.size w1 wx
theorem kp_holds (w1 : World) : Holds (Kp w1) w1 w1.heap.size where
  call := fun h hb => below_on h hb
  set := fun k j v h hk => below_sc h _ _ _ hk
  size := fun h => h.size
  below := fun h => h
theorem Kp.cell {w1 wx : World} (h : Kp w1 wx) {b j : Nat} {v : Value} (hc : w1.cell? ⟨b, j, none⟩ = some v) : wx.cell? ⟨b, j, none⟩ = some v := (Below.cell h (p := ⟨b, j, none⟩) (cell_lt hc)).trans hc
theorem Kp.new (w1 : World) : Kp w1 w1 := Below.refl _ _
end Go.Proofs.YthnkbdjombiodaaGreat

/-
  Lists of queues copied: the library's Clone of queues, copyOfQueues; walks over the dump.
-/
namespace Go.Proofs.YthnkbdjombiodaaGreat
open Go.RowKit
set_option linter.unusedVariables false

theorem qcells_row {w : World} {b off len : Nat} {l : List Q} (h : QRow w (some ⟨b, off, none⟩) len l) : ∀ j u, (qcells l)[j]? = some u → w.cell? ⟨b, off + j, none⟩ = some u := fun j u hj => by
  have hjl : j < l.length * 4 := by rw [← qcells_len]; exact (List.getElem?_eq_some_iff.1 hj).1
  obtain ⟨h1, h2⟩ := h
  rcases h2 with h2 | ⟨b', off', e, h4⟩
  · omega
  · cases e
    have hi : j / 4 < l.length := by omega
    obtain ⟨a0, a1, a2, a3⟩ := qcells_at l (j / 4) hi
    obtain ⟨c0, c1, c2, c3⟩ := h4 (j / 4) hi
    rcases (show j % 4 = 0 ∨ j % 4 = 1 ∨ j % 4 = 2 ∨ j % 4 = 3 by omega) with e | e | e | e
    · rw [show j = j / 4 * 4 by omega] at hj ⊢; rw [a0] at hj; cases hj; exact c0
    · rw [show j = j / 4 * 4 + 1 by omega] at hj ⊢; rw [a1] at hj; cases hj; rw [← Nat.add_assoc]; exact c1
    · rw [show j = j / 4 * 4 + 2 by omega] at hj ⊢; rw [a2] at hj; cases hj; rw [← Nat.add_assoc]; exact c2
    · rw [show j = j / 4 * 4 + 3 by omega] at hj ⊢; rw [a3] at hj; cases hj; rw [← Nat.add_assoc]; exact c3
theorem qcells_one : ∀ (l : List Q), ∀ u ∈ qcells l, u.oneCell' = true
  | [], u, h => by simp [qcells] at h
  | q :: t, u, h => by
    rw [qcells, List.mem_append] at h
    rcases h with h | h
    · simp at h
      rcases h with rfl | rfl | rfl | rfl <;> rfl
    · exact qcells_one t u h
theorem qown_base {w : World} {B B' : Nat} {v : Value} {l : List Q} (h : QOwn B w v l) (hb : B' ≤ B) : QOwn B' w v l := by
  obtain ⟨h1, h2⟩ := h
  refine ⟨h1, ?_⟩
  rcases h2 with h2 | ⟨g, cap, cur, a, b, c⟩
  · exact .inl h2
  · exact .inr ⟨g, cap, cur, a, Nat.le_trans hb b, c⟩
theorem qown_rowx {w : World} {B : Nat} {v : Value} {l : List Q} (h : QOwn B w v l) : ∃ ao cap, v = .slice ao l.length cap ∧ QRow w ao l.length l ∧ l.length ≤ cap ∧ (l ≠ [] → ∃ g cur, ao = some ⟨g, 0, none⟩ ∧ B ≤ g ∧ w.heap[g]? = some (.cells cur 46 (0, 0)) ∧ cur.size = cap * 4) := by
  obtain ⟨ao, cap, e, hr, hc⟩ := h.row
  refine ⟨ao, cap, e, hr, hc, fun hn => ?_⟩
  rcases h.2 with ⟨rfl, h0⟩ | ⟨g, cap', cur, rfl, h1, h2, h3, h4, h5, h6⟩
  · exact absurd (List.length_eq_zero_iff.1 h0) hn
  · simp only [Value.slice.injEq] at e
    obtain ⟨rfl, _, rfl⟩ := e
    exact ⟨g, cur, rfl, h1, h2, h5⟩
set_option maxRecDepth 100000 in
set_option maxHeartbeats 2000000 in
theorem cloneQ_any (ao : Option Addr) (len cap : Nat) (l : List Q) (w : World) (h : QRow w ao len l) (hl : len ≤ 1048576) :
    Calls Tryz.prog 53 #[.slice ao len cap] w fun e w' => ∃ v, e = .returned v ∧ QOwn w.heap.size w' v l ∧ Below w.heap.size w w' := by
  obtain ⟨i0, hi, hz0, hz1, hz2⟩ := info_parts Tryz.infoQ
  cases ao with
  | none =>
    have hn : len = 0 := by rcases h.2 with h | ⟨b, off, e, _⟩; exact h; cases e
    subst hn
    have hl0 : l = [] := List.length_eq_zero_iff.1 h.1.symm
    subst hl0
    have hnl : ∀ wx, (binOp .eql 24 (.slice none 0 cap) (.slice none 0 0)).run Tryz.prog wx = .ok (.bool true) wx := fun wx => Lib.run_eql_slice_nil wx _ _ none 0 cap 0 0 Tryz.underlying24
    clear h hl
    go_enter Tryz.func53, Tryz.ntmps53
    go_wp2
    go_ret
    exact ⟨_, rfl, qown_nil _ _, Below.refl _ _⟩
  | some ad =>
    have hnew : ∀ j u, (qcells l)[j]? = some u → (w.alloc (.cells #[] 46)).cell? (ad.add j) = some u := fun j u hj => by
      have hjl : j < l.length * 4 := by rw [← qcells_len]; exact (List.getElem?_eq_some_iff.1 hj).1
      rcases h.2 with h0 | ⟨b, off, e, _⟩
      · have := h.1; omega
      · cases e
        have := qcells_row (h.below (below_al (Below.refl _ w) (.cells #[] 46))) j u hj
        rw [Lib.add_plain]
        exact this
    have HNW := hide hnew
    have HLN := hide h.1
    have hown : (w.alloc (.cells #[] 46)).ownsRow w.heap.size 46 4 (.slice (some ⟨w.heap.size, 0, none⟩) 0 0) 0 [] := qown_empty w
    have hll : (qcells l).length = len * 4 := by rw [qcells_len, h.1]
    have hone := qcells_one l
    have hnl : ∀ wx, (binOp .eql 24 (.slice (some ad) len cap) (.slice none 0 0)).run Tryz.prog wx = .ok (.bool false) wx := fun wx => Lib.run_eql_slice_nil wx _ _ (some ad) len cap 0 0 Tryz.underlying24
    clear h hnew
    go_enter Tryz.func53, Tryz.ntmps53
    go_wp2_with (at_builtin; refine wpList_append_own _ rfl _ _ 24 rfl w.heap.size 46 i0 (.agg #[.string ByteArray.empty, .string ByteArray.empty, .int .i64 0, .int .i64 0]) 4 48 Tryz.underlying24 hi hz0 hz1 hz2 rfl (by decide) _ _ _ rfl hown ad len cap (qcells l) rfl hll (unhide HNW) hone ?c3 ?c4 ?c5 ?_)
    case c3 => unfold maxLen; omega
    case c4 => omega
    case c5 => simp
    intro v' w3 hown' hgrow _
    have HO := hide (show QOwn w.heap.size w3 v' l by
      unfold QOwn
      rw [← unhide HLN]
      exact hown')
    have HB := hide (show Below w.heap.size w w3 from (below_al (Below.refl _ w) (.cells #[] 46)).grown hgrow (by simp) (fun k e => by simp [Value.ownBlock] at e; omega))
    clear hown' hgrow hown hone hll
    go_wp2
    go_ret
    exact ⟨_, rfl, unhide HO, unhide HB⟩
theorem set_idemQ {arr : Array Value} {j : Nat} {x : Value} (h : arr[j]? = some x) : arr.setIfInBounds j x = arr := by
  apply Array.ext
  · simp
  · intro i h1 h2
    rw [Array.getElem_setIfInBounds]
    split
    · rename_i e
      subst e
      rw [Array.getElem?_eq_getElem h2] at h
      exact (Option.some.inj h).symm
    · rfl
/-- a cell that is written with what stands there -/
theorem qown_same {w : World} {B g n cap j : Nat} {x : Value} {l : List Q} (h : QOwn B w (.slice (some ⟨g, 0, none⟩) n cap) l) (hc : w.cell? ⟨g, j, none⟩ = some x) : QOwn B (w.setCell ⟨g, j, none⟩ x) (.slice (some ⟨g, 0, none⟩) n cap) l ∧ B ≤ g := by
  obtain ⟨h1, h2⟩ := h
  rcases h2 with ⟨e, _⟩ | ⟨g', cap', cur, e, h3, h4, h5⟩
  · cases e
  · cases e
    have hx : cur[j]? = some x := by simpa [World.cell?, h4] using hc
    refine ⟨⟨h1, .inr ⟨g, cap, cur, rfl, h3, ?_, h5⟩⟩, h3⟩
    have := heap_setCell_same w g j _ _ x h4
    rw [set_idemQ hx] at this
    exact this
theorem qown_other {w : World} {B : Nat} {v : Value} {l : List Q} (h : QOwn B w v l) (k j : Nat) (x : Value) (hk : k < B) : QOwn B (w.setCell ⟨k, j, none⟩ x) v l := by
  obtain ⟨h1, h2⟩ := h
  refine ⟨h1, ?_⟩
  rcases h2 with h2 | ⟨g, cap, cur, a, b, c, d⟩
  · exact .inl h2
  · exact .inr ⟨g, cap, cur, a, b, (heap_setCell_other w ⟨k, j, none⟩ g x (show g ≠ k by omega)).trans c, d⟩

set_option maxRecDepth 100000 in
set_option maxHeartbeats 4000000 in
theorem copyOfQueues_any (ao : Option Addr) (len cap : Nat) (l : List Q) (w : World) (h : QRow w ao len l) (hl : len ≤ 1048576) (hn : ∀ q ∈ l, q.name.length ≤ 1048576 ∧ q.parent.length ≤ 1048576) :
    Calls Tryz.prog 27 #[.slice ao len cap] w fun e w' => ∃ v, e = .returned v ∧ QOwn w.heap.size w' v l ∧ Below w.heap.size w w' := by
  have HN := hide hn
  have CC := hide (cloneQ_any ao len cap l w h hl)
  have hll := hide h.1
  clear h hn
  go_enter Tryz.func27, Tryz.ntmps27
  go_wp2_with fail
  refine (unhide CC).mono ?_
  rintro e w1 ⟨v, rfl, ho, hb⟩
  have HB1 := hide hb
  have HO := hide ho
  obtain ⟨xo, xc, rfl, _, hxc, hxg⟩ := (qown_rowx ho)
  obtain ⟨n, hnn⟩ : ∃ n, l.length = n := ⟨_, rfl⟩
  have HLN := hide hnn
  have hn2 : n ≤ 1048576 := by have := unhide hll; omega
  rw [hnn] at HO hxc ⊢
  clear ho hb CC hnn hxg
  go_wp2
  go_loopw [9] (fun i wr => ∃ (k : Nat), k ≤ n ∧ i = .int .i64 k ∧ Hid (QOwn w.heap.size wr (.slice xo n xc) l) ∧ Hid (Below w.heap.size w wr)) (fun i _ => n - (intOf i).toNat)
  case atStart => exact ⟨0, Nat.zero_le _, rfl, HO, HB1⟩
  case round =>
    obtain ⟨k, hk, rfl, HOr, HBr⟩ := hrel
    by_cases hlt : k < n
    · have hkl : k < l.length := by have := unhide HLN; omega
      obtain ⟨xo', xc', e, hrow, _, hg⟩ := (qown_rowx (unhide HOr))
      obtain ⟨g, cur, rfl, hg1, hg2, hg3⟩ := hg (by intro e; rw [e] at hkl; simp at hkl)
      rw [unhide HLN] at e hrow
      cases e
      obtain ⟨b', off', e', hat⟩ := hrow.at hlt
      cases e'
      have c0 := (hat hkl).1
      have c1 := (hat hkl).2.1
      simp only [Nat.zero_add] at c0 c1
      have hnd := unhide HN l[k] (List.getElem_mem _)
      obtain ⟨⟨na, pa, du, mo⟩, hs⟩ : ∃ s, l[k] = s := ⟨_, rfl⟩
      rw [hs] at c0 c1 hnd
      simp only at c0 c1 hnd
      have hs1 : (bs na).size ≤ 281474976710656 := by rw [bs_size]; omega
      have hs2 : (bs pa).size ≤ 281474976710656 := by rw [bs_size]; omega
      have k0 : (0 : Int) ≤ k := by omega
      have k1 : (k : Int) < n := by omega
      have hgs : g < wr.heap.size := lt_of_block hg2
      clear hat hrow hg2 hg3 hs hkl hnd
      go_wp2_with fail
      refine (clone_any (bs na) _ hs1).mono ?_
      rintro e w2 ⟨rfl, hb⟩
      have HO2 := hide ((unhide HOr).below hb)
      have c0' := (hb.cell (p := ⟨g, k * 4, none⟩) hgs).trans c0
      have c1' := (hb.cell (p := ⟨g, k * 4 + 1, none⟩) hgs).trans c1
      have hsame := (qown_same (unhide HO2) c0')
      have hfz : ∀ j, w2.frozen? ⟨g, j, none⟩ = false := fun j => by
        rcases (unhide HO2).2 with ⟨e, _⟩ | ⟨g', cap', cur', e, _, h4, _⟩
        · cases e
        · cases e; simp [World.frozen?, h4]
      have f0 := hfz (k * 4)
      have HB2 := hide (show Below w.heap.size w (w2.setCell ⟨g, k * 4, none⟩ (.string (bs na))) from (below_on (unhide HBr) hb).setCell (by exact hsame.2) _)
      have hg2' : g < w2.heap.size := Nat.lt_of_lt_of_le hgs hb.size
      have d1 : (w2.setCell ⟨g, k * 4, none⟩ (.string (bs na))).cell? ⟨g, k * 4 + 1, none⟩ = some (.string (bs pa)) := cell_keep c1' (by omega)
      have HS := hide hsame
      obtain ⟨W3, hW3⟩ : ∃ W, w2.setCell ⟨g, k * 4, none⟩ (.string (bs na)) = W := ⟨_, rfl⟩
      rw [hW3] at HB2 d1 HS
      have hgW : g < W3.heap.size := cell_lt d1
      clear hb hsame HOr HBr HO2 c0 c1 c1' hfz
      go_wp2_with fail
      refine (clone_any (bs pa) _ hs2).mono ?_
      rintro e w4 ⟨rfl, hb⟩
      have HO4 := hide ((unhide HS).1.below hb)
      have d1' := (hb.cell (p := ⟨g, k * 4 + 1, none⟩) hgW).trans d1
      have hsame := (qown_same (unhide HO4) d1')
      have f1 : w4.frozen? ⟨g, k * 4 + 1, none⟩ = false := by
        rcases (unhide HO4).2 with ⟨e, _⟩ | ⟨g', cap', cur', e, _, h4, _⟩
        · cases e
        · cases e; simp [World.frozen?, h4]
      have HB4 := hide (show Below w.heap.size w (w4.setCell ⟨g, k * 4 + 1, none⟩ (.string (bs pa))) from (below_on (unhide HB2) hb).setCell (by exact hsame.2) _)
      have HS4 := hide hsame.1
      clear hb hsame HS HO4 HB2 c0' d1 hW3 f0
      go_wp2
      go_roundw
      case rel => exact ⟨k + 1, by omega, by go_num, HS4, HB4⟩
      case measure => simp [intOf]; omega
    · have k1 : ¬ (k : Int) < n := by omega
      go_wp2
      go_ret
      exact ⟨_, rfl, unhide HOr, unhide HBr⟩
end Go.Proofs.YthnkbdjombiodaaGreat

/-
  The laws' own heldQueueS: the marks are found again; a walk over the dump.
-/
namespace Go.Proofs.YthnkbdjombiodaaGreat
open Go.RowKit
set_option linter.unusedVariables false

/-- a queue stands at a place; of w0 nothing has turned -/
def QOne (w0 : World) (b p : Nat) (q : Q) (w : World) : Prop := QAt w b p q ∧ Below w0.heap.size w0 w
theorem QOne.call {w0 w w' : World} {b p : Nat} {q : Q} (h : QOne w0 b p q w) (hb : Below w.heap.size w w') : QOne w0 b p q w' := ⟨h.1.below hb, below_on h.2 hb⟩
theorem QOne.drew {w0 w : World} {b p : Nat} {q : Q} (h : QOne w0 b p q w) : QOne w0 b p q w.drew := h.call (Below.refl _ _).drew
theorem QOne.read (w0 : World) (b p : Nat) (q : Q) : ∀ wx, QOne w0 b p q wx → wx.cell? ⟨b, p, none⟩ = some (.string (bs q.name)) ∧ wx.cell? ⟨b, p + 1, none⟩ = some (.string (bs q.parent)) ∧ wx.cell? ⟨b, p + 2, none⟩ = some (.int .i64 q.due) ∧ wx.cell? ⟨b, p + 3, none⟩ = some (.int .i64 q.most) :=
  fun wx h => ⟨h.1.1, h.1.2.1, h.1.2.2.1, h.1.2.2.2⟩
set_option maxRecDepth 100000 in
set_option maxHeartbeats 2000000 in
theorem heldQueueS_any (g n c : Nat) (w : World) (h : QRow w (some ⟨g, 0, none⟩) n (marksQ n)) (hn : n ≤ 1048576) :
    Calls Tryz.prog 36 #[.slice (some ⟨g, 0, none⟩) n c, .int .i64 1] w fun e w' => e = .returned (.int .i64 (1 + 4 * (n : Int))) ∧ Below w.heap.size w w' := by
  have HR := hide h
  clear h
  go_enter Tryz.func36, Tryz.ntmps36
  go_wp2
  go_loopw [1, 5] (fun s i wr => ∃ (j : Nat) (k : Int), j ≤ n ∧ i = .int .i64 j ∧ s = .int .i64 k ∧ k = 1 + 4 * (j : Int) ∧ Hid (Below w.heap.size w wr)) (fun _ i _ => n - (intOf i).toNat)
  case atStart => exact ⟨0, 1, Nat.zero_le _, rfl, rfl, by omega, hide (Below.refl _ _)⟩
  case round =>
    obtain ⟨j, k, hj, rfl, rfl, hk, HB⟩ := hrel
    by_cases hlt : j < n
    · obtain ⟨b, off, e, hq⟩ := ((unhide HR).below (unhide HB)).at hlt
      simp only [Option.some.injEq, Addr.mk.injEq, and_true] at e
      obtain ⟨rfl, rfl⟩ := e
      have hqq := hq (by rw [marksQ_len]; exact hlt)
      rw [marksQ_at] at hqq
      have T0 : ∀ wx, Calls Tryz.prog 20 #[.int .i64 k] wx fun e w' => e = .returned (.string (bs (markQ j).name)) ∧ Below wx.heap.size wx w' := fun wx => by
        have := markText_int k wx (by omega) (by omega)
        rw [show k.toNat = 1 + 4 * j by omega] at this
        exact this
      have T1 : ∀ wx, Calls Tryz.prog 20 #[.int .i64 (k + 1)] wx fun e w' => e = .returned (.string (bs (markQ j).parent)) ∧ Below wx.heap.size wx w' := fun wx => by
        have := markText_int (k + 1) wx (by omega) (by omega)
        rw [show (k + 1).toNat = 1 + 4 * j + 1 by omega] at this
        exact this
      have hd : (markQ j).due = k + 1 + 1 := by rw [hk]; rfl
      have hm : (markQ j).most = k + 1 + 1 + 1 := by rw [hk]; rfl
      obtain ⟨q, hqe⟩ : ∃ q, markQ j = q := ⟨_, rfl⟩
      rw [hqe] at hqq T0 T1 hd hm
      have A0 := hide (show QOne w g (0 + j * 4) q wr from ⟨hqq, unhide HB⟩)
      have C0 := hide T0
      have C1 := hide T1
      have HK := hide hk
      have HD := hide hd
      have HM := hide hm
      have R := QOne.read w g (0 + j * 4) q
      simp only [Nat.zero_add] at A0 R
      have j0 : (0 : Int) ≤ j := by omega
      have j1 : (j : Int) < n := by omega
      have hk0 : 0 < k := by omega
      have hk1 : k ≤ 4194305 := by omega
      have hw1 : IntKind.i64.wrap (k + 1) = k + 1 := by rw [IntKind.wrap_i64]; omega
      clear hq hqq T0 T1 hqe hk hd hm
      go_wp2_with fail
      go_region_held3 (fun wx => QOne w g (j * 4) q wx)
        (first | (with_reducible assumption) | exact (unhide A0).drew | exact QOne.call (by assumption) (by assumption))
        (first
        | (go_at_call 20; refine (unhide C0 _).mono ?_; rintro e wt ⟨rfl, hb⟩; have SA := QOne.call (w0 := w) (b := g) (p := j * 4) (q := q) (by assumption) hb))
      have A1 := hide SA
      clear SA A0
      go_wp2_with fail
      go_region_held3 (fun wx => QOne w g (j * 4) q wx)
        (first | (with_reducible assumption) | exact (unhide A1).drew | exact QOne.call (by assumption) (by assumption))
        (first
        | (go_at_call 20; refine (unhide C1 _).mono ?_; rintro e wt2 ⟨rfl, hb⟩; have SA := QOne.call (w0 := w) (b := g) (p := j * 4) (q := q) (by assumption) hb))
      obtain ⟨_, _, r2, r3⟩ := R _ SA
      rw [unhide HD] at r2
      rw [unhide HM] at r3
      have HB2 := hide SA.2
      clear SA A1 R C0 C1
      go_wp2
      go_roundw
      case rel => exact ⟨j + 1, k + 1 + 1 + 1 + 1, by omega, by go_num, by go_num, by have := unhide HK; omega, HB2⟩
      case measure => simp [intOf]; omega
    · have hjn : j = n := by omega
      subst hjn
      go_wp2
      go_ret
      exact ⟨ret_int (by omega), unhide HB⟩
end Go.Proofs.YthnkbdjombiodaaGreat

/-
  The laws' own marks at a list without a queue; walks over the dump.
-/
namespace Go.Proofs.YthnkbdjombiodaaGreat
open Go.RowKit
set_option linter.unusedVariables false

set_option maxRecDepth 100000 in
set_option maxHeartbeats 1000000 in
theorem markQueueS_zero (ao : Option Addr) (c : Nat) (w : World) :
    Calls Tryz.prog 10 #[.slice ao 0 c, .int .i64 1] w fun e w' => e = .returned (.int .i64 1) ∧ w = w' := by
  go_enter Tryz.func10, Tryz.ntmps10
  go_wp2
  go_loopw [1, 5] (fun s i wr => i = .int .i64 0 ∧ s = .int .i64 1 ∧ wr = w) (fun _ _ _ => 0)
  case atStart => exact ⟨rfl, rfl, rfl⟩
  case round =>
    obtain ⟨rfl, rfl, rfl⟩ := hrel
    go_wp2
    go_ret
    exact ⟨rfl, rfl⟩
set_option maxRecDepth 100000 in
set_option maxHeartbeats 1000000 in
theorem heldQueueS_zero (ao : Option Addr) (c : Nat) (w : World) :
    Calls Tryz.prog 36 #[.slice ao 0 c, .int .i64 1] w fun e w' => e = .returned (.int .i64 1) ∧ w = w' := by
  go_enter Tryz.func36, Tryz.ntmps36
  go_wp2
  go_loopw [1, 5] (fun s i wr => i = .int .i64 0 ∧ s = .int .i64 1 ∧ wr = w) (fun _ _ _ => 0)
  case atStart => exact ⟨rfl, rfl, rfl⟩
  case round =>
    obtain ⟨rfl, rfl, rfl⟩ := hrel
    go_wp2
    go_ret
    exact ⟨rfl, rfl⟩
end Go.Proofs.YthnkbdjombiodaaGreat
