/-
  Several texts of this claim in one: QDraw, RightS, QueD, AskA (pack.py put them together); each says in its own remark what is proved.
-/
import Derived.Test.YtebaejokhpdbkaaGreatDoorPackA
import Derived.Test.YtebaejokhpdbkaaGreatDoorDec
import Derived.Lib.ItoaLen
import Derived.Maps.Range
import Derived.Laws.AppendOwn
import Derived.Deep.RegionWith
import Derived.Deep.RegionHeld3
/-
  Queues that are drawn: l03Right, l03Queues, l03Asked; each within its bounds; walks over the dump.
-/
namespace Go.Proofs.YtebaejokhpdbkaaGreatDoor
open Go.RowKit
set_option linter.unusedVariables false

abbrev dcell (q : Q) : List Value := [.string (bs q.name), .string (bs q.parent), .int .i64 q.due, .int .i64 q.most]
def dcells : List Q → List Value
  | [] => []
  | q :: t => dcell q ++ dcells t
theorem dcells_app (a b : List Q) : dcells (a ++ b) = dcells a ++ dcells b := by
  induction a with
  | nil => rfl
  | cons x t ih => rw [List.cons_append, dcells, dcells, ih, List.append_assoc]
theorem dcells_len : ∀ l : List Q, (dcells l).length = l.length * 4
  | [] => rfl
  | q :: t => by rw [dcells, List.length_append, dcells_len t]; simp; omega
theorem dcells_at : ∀ (l : List Q) (i : Nat) (h : i < l.length), (dcells l)[i * 4]? = some (.string (bs l[i].name)) ∧ (dcells l)[i * 4 + 1]? = some (.string (bs l[i].parent)) ∧ (dcells l)[i * 4 + 2]? = some (.int .i64 l[i].due) ∧ (dcells l)[i * 4 + 3]? = some (.int .i64 l[i].most)
  | q :: t, 0, _ => ⟨rfl, rfl, rfl, rfl⟩
  | q :: t, i + 1, h => by
    have e := dcells_at t i (by simpa using h)
    have k : ∀ j, (dcells (q :: t))[(i + 1) * 4 + j]? = (dcells t)[i * 4 + j]? := fun j => by
      rw [dcells, show (i + 1) * 4 + j = (dcell q).length + (i * 4 + j) by simp; omega, List.getElem?_append_right (by omega)]
      congr 1
      omega
    have k0 := k 0
    simp only [Nat.add_zero] at k0
    rw [k0, k 1, k 2, k 3]
    simpa using e
/-- v is a list of these queues, in memory of its own from block B on -/
def QDr (B : Nat) (w : World) (v : Value) (l : List Q) : Prop := w.ownsRow B 39 4 v l.length (dcells l)
theorem QDr.kept {w w' : World} {B : Nat} {v : Value} {l : List Q} {row : Option Nat} (h : QDr B w v l) (hg : w.grownBy w' row) (hr : ∀ k, row = some k → k < B) : QDr B w' v l := by
  refine World.ownsRow.kept h hg ?_
  rcases h.2 with ⟨rfl, _⟩ | ⟨g, cap, cur, rfl, hg', _⟩
  · exact .inl rfl
  · right
    intro e
    have := hr g e.symm
    omega
theorem QDr.below {w w' : World} {B : Nat} {v : Value} {l : List Q} (h : QDr B w v l) (hb : Below w.heap.size w w') : QDr B w' v l := h.kept (grownBy_below (grownBy_refl w none) hb) (fun k e => by cases e)
theorem QDr.row {w : World} {B : Nat} {v : Value} {l : List Q} (h : QDr B w v l) (hl : l ≠ []) : ∃ g cap cur, v = .slice (some ⟨g, 0, none⟩) l.length cap ∧ QRow w (some ⟨g, 0, none⟩) l.length l ∧ l.length ≤ cap ∧ B ≤ g ∧ w.heap[g]? = some (.cells cur 39 (0, 0)) := by
  rcases h.2 with ⟨rfl, h0⟩ | ⟨g, cap, cur, rfl, h1, h2, h3, h4, h5, h6⟩
  · exact absurd (List.length_eq_zero_iff.1 h0) hl
  · refine ⟨g, cap, cur, rfl, ⟨rfl, .inr ⟨g, 0, rfl, fun i hi => ?_⟩⟩, h3, h1, h2⟩
    obtain ⟨a, b, c, d⟩ := dcells_at l i hi
    have k : ∀ j (v : Value), j < l.length * 4 → (dcells l)[j]? = some v → w.cell? ⟨g, j, none⟩ = some v := fun j v hj hv => by
      rw [← h6, List.getElem?_take_of_lt hj] at hv
      simp [World.cell?, h2]
      simpa using hv
    unfold QAt
    rw [Nat.zero_add]
    exact ⟨k _ _ (by omega) a, k _ _ (by omega) b, k _ _ (by omega) c, k _ _ (by omega) d⟩
theorem qdr_lit (w : World) (l : List Q) (n : Nat) (hn : l.length = n) (hm : n ≤ 1000) : QDr w.heap.size (w.alloc (.cells (dcells l).toArray 39)) (.slice (some ⟨w.heap.size, 0, none⟩) n n) l := by
  subst hn
  refine ⟨dcells_len l, .inr ⟨w.heap.size, l.length, (dcells l).toArray, rfl, Nat.le_refl _, by show (w.heap.push _)[w.heap.size]? = _; simp, Nat.le_refl _, by unfold maxLen; omega, by simp [dcells_len], ?_⟩⟩
  rw [← dcells_len]
  simp
theorem QRow.put {w : World} {b off len : Nat} {l : List Q} (h : QRow w (some ⟨b, off, none⟩) len l) (i : Nat) (hi : i < l.length) (q : Q) (j : Nat) (x : Value)
    (hx : (j = 0 ∧ x = .string (bs q.name) ∧ q = { l[i] with name := q.name }) ∨ (j = 1 ∧ x = .string (bs q.parent) ∧ q = { l[i] with parent := q.parent }) ∨ (j = 2 ∧ x = .int .i64 q.due ∧ q = { l[i] with due := q.due }) ∨ (j = 3 ∧ x = .int .i64 q.most ∧ q = { l[i] with most := q.most })) :
    QRow (w.setCell ⟨b, off + i * 4 + j, none⟩ x) (some ⟨b, off, none⟩) len (l.set i q) := by
  obtain ⟨h1, h2⟩ := h
  have hl : len ≠ 0 := by omega
  rcases h2 with h2 | ⟨b', off', e, h4⟩
  · exact absurd h2 hl
  · cases e
    have hot : ∀ p, p ≠ off + i * 4 + j → (w.setCell ⟨b, off + i * 4 + j, none⟩ x).cell? ⟨b, p, none⟩ = w.cell? ⟨b, p, none⟩ := fun p hp => World.cell?_setCell_other _ ⟨b, off + i * 4 + j, none⟩ ⟨b, p, none⟩ _ (by intro e; have := congrArg Addr.off e; simp at this; omega)
    have hsame : ∀ v, w.cell? ⟨b, off + i * 4 + j, none⟩ = some v → (w.setCell ⟨b, off + i * 4 + j, none⟩ x).cell? ⟨b, off + i * 4 + j, none⟩ = some x := fun v hv => World.cell?_setCell_same w _ _ hv
    refine ⟨by simpa using h1, .inr ⟨b, off, rfl, fun k hk => ?_⟩⟩
    have hk' : k < l.length := by simpa using hk
    obtain ⟨a0, a1, a2, a3⟩ := h4 k hk'
    by_cases e : k = i
    · subst e
      rw [show (l.set k q)[k] = q by simp]
      rcases hx with ⟨rfl, rfl, hq⟩ | ⟨rfl, rfl, hq⟩ | ⟨rfl, rfl, hq⟩ | ⟨rfl, rfl, hq⟩
      · refine ⟨hsame _ a0, ?_, ?_, ?_⟩
        · rw [hot _ (by omega), a1, hq]
        · rw [hot _ (by omega), a2, hq]
        · rw [hot _ (by omega), a3, hq]
      · refine ⟨?_, hsame _ a1, ?_, ?_⟩
        · rw [hot _ (by omega), a0, hq]
        · rw [hot _ (by omega), a2, hq]
        · rw [hot _ (by omega), a3, hq]
      · refine ⟨?_, ?_, hsame _ a2, ?_⟩
        · rw [hot _ (by omega), a0, hq]
        · rw [hot _ (by omega), a1, hq]
        · rw [hot _ (by omega), a3, hq]
      · refine ⟨?_, ?_, ?_, hsame _ a3⟩
        · rw [hot _ (by omega), a0, hq]
        · rw [hot _ (by omega), a1, hq]
        · rw [hot _ (by omega), a2, hq]
    · rw [show (l.set i q)[k] = l[k] by rw [List.getElem_set_ne (fun h => e h.symm)]]
      have hj : j < 4 := by rcases hx with ⟨rfl, _⟩ | ⟨rfl, _⟩ | ⟨rfl, _⟩ | ⟨rfl, _⟩ <;> omega
      refine ⟨?_, ?_, ?_, ?_⟩
      · rw [hot _ (by omega), a0]
      · rw [hot _ (by omega), a1]
      · rw [hot _ (by omega), a2]
      · rw [hot _ (by omega), a3]
/-- names that are not long -/
def Brief (l : List Q) : Prop := ∀ q ∈ l, q.name.length ≤ 1000
theorem Brief.set {l : List Q} (h : Brief l) (i : Nat) (q : Q) (hq : q.name.length ≤ 1000) : Brief (l.set i q) := fun x hx => by
  rcases List.mem_or_eq_of_mem_set hx with hx | rfl
  · exact h x hx
  · exact hq
theorem St.gro {w0 w w' : World} {B g : Nat} {ao : Option Addr} {len cap : Nat} (h : St w0 B g ao len cap w) {row : Option Nat} (hg : w.grownBy w' row) (hr : ∀ k, row = some k → w0.heap.size ≤ k ∧ g < k) : St w0 B g ao len cap w' := by
  obtain ⟨⟨i, x, h1, h2⟩, hc, hgr, hB⟩ := h
  have hgl : g < w.heap.size := lt_of_block h1
  refine ⟨⟨i, x, (hg.block g hgl (fun e => by have := hr g e.symm; omega)).trans h1, h2⟩, ?_, hgr.andThen hg (fun j hj => .inl (hr j hj).1), hB⟩
  exact hc.below ((Below.refl B w).grown hg hc.1 (fun k e => by have := hr k e; omega)) (Nat.le_refl _)
theorem Tryz.infoQD : (Tryz.prog.info? 39).map (fun i => (i.zero, i.size, i.bytes)) = some (some (.agg #[.string ByteArray.empty, .string ByteArray.empty, .int .i64 0, .int .i64 0]), 4, 48) := by kernel_rfl
end Go.Proofs.YtebaejokhpdbkaaGreatDoor

/-
  Queues that are drawn: l03Right, l03Queues; walks over the dump.
-/
namespace Go.Proofs.YtebaejokhpdbkaaGreatDoor
open Go.RowKit
set_option linter.unusedVariables false

theorem St.rebase {w0 w : World} {B g : Nat} {ao : Option Addr} {len cap : Nat} (h : St w0 B g ao len cap w) : St w B g ao len cap w := ⟨h.1, h.2.1, grownBy_refl w _, h.2.2.2⟩
/-- three queues, of which two have drawn points -/
def three (a b c d : Int) : List Q := [⟨[114, 111, 111, 116], [], 10000, 10000⟩, ⟨[97], [114, 111, 111, 116], a, b⟩, ⟨[98], [114, 111, 111, 116], c, d⟩]
theorem three_brief (a b c d : Int) : Brief (three a b c d) := fun q hq => by
  simp [three] at hq
  rcases hq with rfl | rfl | rfl <;> simp

set_option maxRecDepth 100000 in
set_option maxHeartbeats 4000000 in
theorem right_st {w0 : World} {B g : Nat} {ao : Option Addr} {len cap : Nat} (w : World) (h : St w0 B g ao len cap w) :
    Calls Tryz.prog 46 #[.pointer (some ⟨g, 0, none⟩)] w fun e w' => ∃ v ls, e = .returned v ∧ Hid (QDr w.heap.size w' v ls) ∧ 3 ≤ ls.length ∧ ls.length ≤ 5 ∧ Hid (Brief ls) ∧ Hid (St w0 B g ao len cap w') := by
  obtain ⟨i0, hi, hz0, hz1, hz2⟩ := info_parts Tryz.infoQD
  have HS := hide h
  have hgl := h.1.lt
  have hw0 := h.2.2.1.size
  clear h
  have hq1 := hide (ints_alloc w 3 [5000, 3000, 0, 6000] (by decide))
  go_enter Tryz.func46, Tryz.ntmps46
  go_wp2_with fail
  refine (pick_st w.heap.size 4 4 _ ((unhide HS).alloc _).rebase (unhide hq1) (by omega) (by decide) (by decide)).mono ?_
  rintro e w1 ⟨x1, rfl, _, _, hs1⟩
  have HS1 := hide (((unhide HS).alloc _).step hs1.1 hs1.2.2.1)
  have hz1' : w.heap.size + 1 ≤ w1.heap.size := by have := hs1.2.2.1.size; rwa [World.size_alloc] at this
  have hq2 := hide (ints_alloc w1 3 [8000, 10000, 6000] (by decide))
  clear hs1 hq1 HS
  go_wp2_with fail
  refine (pick_st w1.heap.size 3 3 _ ((unhide HS1).alloc _).rebase (unhide hq2) (by omega) (by decide) (by decide)).mono ?_
  rintro e w2 ⟨x2, rfl, _, _, hs2⟩
  have HS2 := hide (((unhide HS1).alloc _).step hs2.1 hs2.2.2.1)
  have hz2' : w1.heap.size + 1 ≤ w2.heap.size := by have := hs2.2.2.1.size; rwa [World.size_alloc] at this
  have hq3 := hide (ints_alloc w2 3 [4000, 2000, 0] (by decide))
  clear hs2 hq2 HS1
  go_wp2_with fail
  refine (pick_st w2.heap.size 3 3 _ ((unhide HS2).alloc _).rebase (unhide hq3) (by omega) (by decide) (by decide)).mono ?_
  rintro e w3 ⟨x3, rfl, _, _, hs3⟩
  have HS3 := hide (((unhide HS2).alloc _).step hs3.1 hs3.2.2.1)
  have hz3' : w2.heap.size + 1 ≤ w3.heap.size := by have := hs3.2.2.1.size; rwa [World.size_alloc] at this
  have hq4 := hide (ints_alloc w3 3 [10000, 5000] (by decide))
  clear hs3 hq3 HS2
  go_wp2_with fail
  refine (pick_st w3.heap.size 2 2 _ ((unhide HS3).alloc _).rebase (unhide hq4) (by omega) (by decide) (by decide)).mono ?_
  rintro e w4 ⟨x4, rfl, _, _, hs4⟩
  have HS4 := hide ((((unhide HS3).alloc _).step hs4.1 hs4.2.2.1).alloc (.cells (dcells (three x1 x2 x3 x4)).toArray 39))
  have hz4' : w3.heap.size + 1 ≤ w4.heap.size := by have := hs4.2.2.1.size; rwa [World.size_alloc] at this
  have HQ4 := hide (qdr_lit w4 (three x1 x2 x3 x4) 3 rfl (by decide))
  have HBR := hide (three_brief x1 x2 x3 x4)
  have HLN := hide (show (three x1 x2 x3 x4).length = 3 from rfl)
  clear hs4 hq4 HS3
  go_wp2_with fail
  refine (once_st 2 _ (unhide HS4).rebase (by decide) (by decide)).mono ?_
  rintro e w5 ⟨x, rfl, hs5⟩
  have HS5 := hide ((unhide HS4).step hs5.1 hs5.2.2.1)
  have HQ5 := hide ((unhide HQ4).kept hs5.2.2.1 (fun k e => by cases e; omega))
  have hz5' : w4.heap.size + 1 ≤ w5.heap.size := by have := hs5.2.2.1.size; rwa [World.size_alloc] at this
  clear hs5 HS4 HQ4
  cases x with
  | false =>
    go_wp2
    go_ret
    exact ⟨_, three x1 x2 x3 x4, rfl, hide ⟨(unhide HQ5).1, by rcases (unhide HQ5).2 with h | ⟨a, b, c, h1, h2, h3⟩; exact .inl h; exact .inr ⟨a, b, c, h1, by omega, h3⟩⟩, by rw [unhide HLN]; omega, by rw [unhide HLN]; omega, HBR, HS5⟩
  | true =>
    have hq6 := hide (ints_alloc w5 3 [5000, 1000] (by decide))
    go_wp2_with fail
    refine (pick_st w5.heap.size 2 2 _ ((unhide HS5).alloc _).rebase (unhide hq6) (by omega) (by decide) (by decide)).mono ?_
    rintro e w6 ⟨x6, rfl, _, _, hs6⟩
    have HS6 := hide (((unhide HS5).alloc _).step hs6.1 hs6.2.2.1)
    have HQ6 := hide (((unhide HQ5).below (below_al (Below.refl _ _) _)).kept hs6.2.2.1 (fun k e => by cases e; omega))
    have hz6' : w5.heap.size + 1 ≤ w6.heap.size := by have := hs6.2.2.1.size; rwa [World.size_alloc] at this
    have hown : w6.ownsRow w4.heap.size 39 4 _ 3 (dcells (three x1 x2 x3 x4)) := unhide HQ6
    have hs2 : w4.heap.size ≤ w6.heap.size := by omega
    clear hs6 hq6 HS5 HQ5
    go_wp2_with (at_builtin; refine wpList_append_own _ rfl _ _ 24 rfl w4.heap.size 39 i0 (.agg #[.string ByteArray.empty, .string ByteArray.empty, .int .i64 0, .int .i64 0]) 4 48 Tryz.underlying24 hi hz0 hz1 hz2 rfl (by decide) _ _ _ rfl (hown.alloc _) ⟨w6.heap.size, 0, none⟩ 2 2 (dcells [⟨[98, 49], [98], 5000, 10000⟩, ⟨[98, 50], [98], x6, 9000⟩]) rfl rfl ?c1 ?c2 ?c3 ?c4 ?c5 ?_)
    case c1 =>
      intro j x hj
      have hj8 : j < 8 := by have := (List.getElem?_eq_some_iff.1 hj).1; simpa [dcells] using this
      match j, hj8, hj with
      | 0, _, hj => simp [dcells] at hj; subst hj; simp [Addr.add]; rfl
      | 1, _, hj => simp [dcells] at hj; subst hj; simp [Addr.add]; rfl
      | 2, _, hj => simp [dcells] at hj; subst hj; simp [Addr.add]
      | 3, _, hj => simp [dcells] at hj; subst hj; simp [Addr.add]
      | 4, _, hj => simp [dcells] at hj; subst hj; simp [Addr.add]; rfl
      | 5, _, hj => simp [dcells] at hj; subst hj; simp [Addr.add]; rfl
      | 6, _, hj => simp [dcells] at hj; subst hj; simp [Addr.add]
      | 7, _, hj => simp [dcells] at hj; subst hj; simp [Addr.add]
    case c2 => intro x hx; simp [dcells] at hx; rcases hx with rfl | rfl | rfl | rfl | rfl | rfl | rfl | rfl <;> rfl
    case c3 => unfold maxLen; omega
    case c4 => omega
    case c5 => simp at hs2 ⊢; omega
    intro v' w7 hown' hgrow _
    have HQ7 := hide (show QDr w4.heap.size w7 v' (three x1 x2 x3 x4 ++ [⟨[98, 49], [98], 5000, 10000⟩, ⟨[98, 50], [98], x6, 9000⟩]) by unfold QDr; rw [dcells_app]; exact hown')
    have HS7 := hide (((unhide HS6).alloc _).gro hgrow (fun k hk => by
      rcases (unhide HQ6).2 with ⟨e, _⟩ | ⟨q, _, _, e, hq, _⟩
      · rw [e] at hk; simp [Value.ownBlock] at hk
      · rw [e] at hk; simp [Value.ownBlock] at hk; omega))
    clear hown' hgrow hown
    go_wp2
    go_ret
    refine ⟨_, three x1 x2 x3 x4 ++ [⟨[98, 49], [98], 5000, 10000⟩, ⟨[98, 50], [98], x6, 9000⟩], rfl, hide ⟨(unhide HQ7).1, by rcases (unhide HQ7).2 with h | ⟨a, b, c, h1, h2, h3⟩; exact .inl h; exact .inr ⟨a, b, c, h1, by omega, h3⟩⟩, by simp [unhide HLN], by simp [unhide HLN], hide ?_, HS7⟩
    intro q hq
    rcases List.mem_append.1 hq with hq | hq
    · exact unhide HBR q hq
    · simp at hq
      rcases hq with rfl | rfl <;> simp
end Go.Proofs.YtebaejokhpdbkaaGreatDoor

/-
  Queues that are drawn, and what is wrong with some of them: l03Queues; a walk over the dump.
-/
namespace Go.Proofs.YtebaejokhpdbkaaGreatDoor
open Go.RowKit
set_option linter.unusedVariables false

def lenOf : Value → Nat
  | .slice _ n _ => n
  | _ => 0
theorem bs_z (l : List UInt8) : ({ data := #[122] } : ByteArray) ++ bs l = bs (122 :: l) := by
  apply ByteArray.ext
  simp [bs]
theorem QRow.gro {w w' : World} {b off len : Nat} {l : List Q} {row : Option Nat} (h : QRow w (some ⟨b, off, none⟩) len l) (hb : b < w.heap.size) (hg : w.grownBy w' row) (hr : row ≠ some b) : QRow w' (some ⟨b, off, none⟩) len l := by
  have hblk := hg.block b hb (fun e => hr e.symm)
  have hc : ∀ p, w'.cell? ⟨b, p, none⟩ = w.cell? ⟨b, p, none⟩ := fun p => by unfold World.cell?; rw [hblk]
  obtain ⟨h1, h2⟩ := h
  refine ⟨h1, ?_⟩
  rcases h2 with h2 | ⟨b', off', e, h4⟩
  · exact .inl h2
  · cases e
    exact .inr ⟨b, off, rfl, fun i hi => by obtain ⟨a0, a1, a2, a3⟩ := h4 i hi; exact ⟨(hc _).trans a0, (hc _).trans a1, (hc _).trans a2, (hc _).trans a3⟩⟩

set_option maxRecDepth 100000 in
set_option maxHeartbeats 4000000 in
theorem queues_st {w0 : World} {B g : Nat} {ao : Option Addr} {len cap : Nat} (w : World) (h : St w0 B g ao len cap w) :
    Calls Tryz.prog 25 #[.pointer (some ⟨g, 0, none⟩)] w fun e w' => ∃ qb n c' ls, e = .returned (.slice (some ⟨qb, 0, none⟩) n c') ∧ Hid (QRow w' (some ⟨qb, 0, none⟩) n ls) ∧ (g < qb ∧ 3 ≤ n) ∧ n ≤ c' ∧ n ≤ 1000 ∧ Hid (Brief ls) ∧ Hid (St w0 B g ao len cap w') := by
  obtain ⟨i0, hi, hz0, hz1, hz2⟩ := info_parts Tryz.infoQD
  have HS := hide h
  have hgl := h.1.lt
  have hw0 := h.2.2.1.size
  have hBg := h.2.2.2
  clear h
  go_enter Tryz.func25, Tryz.ntmps25
  go_wp2_with fail
  refine (right_st w (unhide HS)).mono ?_
  rintro e w1 ⟨v, ls, rfl, HQ, hn3, hn5, HBR, HS1⟩
  obtain ⟨qb, qc, cur, rfl, hrow, hqc, hwq, hblk⟩ := (unhide HQ).row (by intro e; rw [e] at hn3; simp at hn3)
  have hqb : qb < w1.heap.size := lt_of_block hblk
  have HROW := hide hrow
  have HBLK := hide hblk
  obtain ⟨n, hn⟩ : ∃ n, ls.length = n := ⟨_, rfl⟩
  have HN := hide hn
  rw [hn] at hn3 hn5 hqc HROW HQ ⊢
  clear hrow hblk hn HS
  go_wp2_with fail
  refine (below_st (n : Int) _ (unhide HS1) (by omega) (by omega)).mono ?_
  rintro e w2 ⟨x, rfl, hx0, hx1, hs2, hg2⟩
  obtain ⟨X, rfl⟩ := Int.eq_ofNat_of_zero_le hx0
  have HS2 := hide hs2
  have HR2 := hide ((unhide HROW).gro hqb hg2 (by intro e; cases e; omega))
  have HB2 := hide ((hg2.block qb hqb (by intro e; cases e; omega)).trans (unhide HBLK))
  have HQ2 := hide ((unhide HQ).kept hg2 (fun k e => by cases e; omega))
  have hs12 := hg2.size
  clear hs2 hg2 HROW HBLK HQ HS1
  go_wp2_with fail
  refine (below_st 16 _ (unhide HS2) (by decide) (by decide)).mono ?_
  rintro e w3 ⟨k, rfl, hk0, hk1, hs3, hg3⟩
  have HS3 := hide hs3
  have HR3 := hide ((unhide HR2).gro (by omega) hg3 (by intro e; cases e; omega))
  have HB3 := hide ((hg3.block qb (by omega) (by intro e; cases e; omega)).trans (unhide HB2))
  have HQ3 := hide ((unhide HQ2).kept hg3 (fun k e => by cases e; omega))
  have hs23 := hg3.size
  clear hs3 hg3 HR2 HB2 HQ2 HS2
  have hXl : X < n := by omega
  have hXls : X < ls.length := by have := unhide HN; omega
  have fin : ∀ (wy : World) (j : Nat) (val : Value) (q : Q), QRow wy (some ⟨qb, 0, none⟩) n ls → St w0 B g ao len cap wy → q.name.length ≤ 1000 →
      ((j = 0 ∧ val = .string (bs q.name) ∧ q = { ls[X] with name := q.name }) ∨ (j = 1 ∧ val = .string (bs q.parent) ∧ q = { ls[X] with parent := q.parent }) ∨ (j = 2 ∧ val = .int .i64 q.due ∧ q = { ls[X] with due := q.due }) ∨ (j = 3 ∧ val = .int .i64 q.most ∧ q = { ls[X] with most := q.most })) →
      Hid (QRow (wy.setCell ⟨qb, 0 + X * 4 + j, none⟩ val) (some ⟨qb, 0, none⟩) n (ls.set X q)) ∧ Hid (Brief (ls.set X q)) ∧ Hid (St w0 B g ao len cap (wy.setCell ⟨qb, 0 + X * 4 + j, none⟩ val)) := fun wy j val q h1 h2 h3 h4 =>
    ⟨hide (h1.put X hXls q j val h4), hide ((unhide HBR).set X q h3), hide (h2.set qb _ val (by omega) (by omega) (by omega))⟩
  have FIN := hide fin
  have hnm := unhide HBR ls[X] (List.getElem_mem _)
  obtain ⟨⟨qn, qp, qd, qm⟩, hqX⟩ : ∃ q, ls[X] = q := ⟨_, rfl⟩
  rw [hqX] at hnm
  have HQX := hide hqX
  clear fin hqX
  simp only at hnm
  have X0 : (0 : Int) ≤ X := by omega
  have X1 : (X : Int) < n := by omega
  rcases (show k = 0 ∨ k = 1 ∨ k = 2 ∨ k = 3 ∨ k = 4 ∨ 5 ≤ k by omega) with rfl | rfl | rfl | rfl | rfl | hk5
  · go_wp2_with fail
    refine (name_st _ (unhide HS3).rebase).mono ?_
    rintro e w4 ⟨s, rfl, hsz, hs4⟩
    have HS4 := hide ((unhide HS3).step hs4.1 hs4.2.2.1)
    have HR4 := hide ((unhide HR3).gro (by omega) hs4.2.2.1 (by intro e; cases e; omega))
    have hb4 := (hs4.2.2.1.block qb (by omega) (by intro e; cases e; omega)).trans (unhide HB3)
    have cc := ((unhide HR4).at hXl)
    obtain ⟨b', off', e', hat⟩ := cc
    cases e'
    have c0 := (hat hXls).1
    have f0 : w4.frozen? ⟨qb, X * 4, none⟩ = false := by simp [World.frozen?, hb4]
    simp only [Nat.zero_add] at c0
    obtain ⟨nn, rfl⟩ : ∃ l, s = bs l := ⟨s.data.toList, by simp [bs]⟩
    rw [bs_size] at hsz
    obtain ⟨F1, F2, F3⟩ := unhide FIN w4 0 (.string (bs nn)) ⟨nn, qp, qd, qm⟩ (unhide HR4) (unhide HS4) (by simp only; omega) (.inl ⟨rfl, rfl, by rw [unhide HQX]⟩)
    simp only [Nat.zero_add, Nat.add_zero] at F1 F2 F3
    clear hs4 hb4 hat
    go_wp2
    go_ret
    exact ⟨qb, n, qc, _, rfl, F1, ⟨by omega, hn3⟩, hqc, by omega, F2, F3⟩
  · have hq := hide (pickt_alloc w3 9 [⟨#[]⟩, ⟨#[97]⟩, ⟨#[110, 111, 110, 101]⟩, ⟨#[98, 50]⟩] (by decide))
    go_wp2_with fail
    refine (pickS_st w3.heap.size 4 4 _ ((unhide HS3).alloc _).rebase (unhide hq) (by omega) (by decide) (by decide)).mono ?_
    rintro e w4 ⟨s, rfl, hsz, hs4⟩
    have hg4 := grownBy_trans (grownBy_below (grownBy_refl w3 (some g)) (below_al (Below.refl _ w3) _)) hs4.2.2.1
    have HS4 := hide ((unhide HS3).step hs4.1 hg4)
    have HR4 := hide ((unhide HR3).gro (by omega) hg4 (by intro e; cases e; omega))
    have hb4 := (hg4.block qb (by omega) (by intro e; cases e; omega)).trans (unhide HB3)
    obtain ⟨b', off', e', hat⟩ := ((unhide HR4).at hXl)
    cases e'
    have c0 := (hat hXls).2.1
    have f0 : w4.frozen? ⟨qb, X * 4 + 1, none⟩ = false := by simp [World.frozen?, hb4]
    simp only [Nat.zero_add] at c0
    obtain ⟨nn, rfl⟩ : ∃ l, s = bs l := ⟨s.data.toList, by simp [bs]⟩
    obtain ⟨F1, F2, F3⟩ := unhide FIN w4 1 (.string (bs nn)) ⟨qn, nn, qd, qm⟩ (unhide HR4) (unhide HS4) hnm (.inr (.inl ⟨rfl, rfl, by rw [unhide HQX]⟩))
    simp only [Nat.zero_add] at F1 F2 F3
    clear hs4 hb4 hat hg4 hq
    go_wp2
    go_ret
    exact ⟨qb, n, qc, _, rfl, F1, ⟨by omega, hn3⟩, hqc, by omega, F2, F3⟩
  · have hq := hide (ints_alloc w3 3 [-1, 10001, 9999, 0] (by decide))
    go_wp2_with fail
    refine (pick_st w3.heap.size 4 4 _ ((unhide HS3).alloc _).rebase (unhide hq) (by omega) (by decide) (by decide)).mono ?_
    rintro e w4 ⟨s, rfl, _, _, hs4⟩
    have hg4 := grownBy_trans (grownBy_below (grownBy_refl w3 (some g)) (below_al (Below.refl _ w3) _)) hs4.2.2.1
    have HS4 := hide ((unhide HS3).step hs4.1 hg4)
    have HR4 := hide ((unhide HR3).gro (by omega) hg4 (by intro e; cases e; omega))
    have hb4 := (hg4.block qb (by omega) (by intro e; cases e; omega)).trans (unhide HB3)
    obtain ⟨b', off', e', hat⟩ := ((unhide HR4).at hXl)
    cases e'
    have c0 := (hat hXls).2.2.1
    have f0 : w4.frozen? ⟨qb, X * 4 + 2, none⟩ = false := by simp [World.frozen?, hb4]
    simp only [Nat.zero_add] at c0
    obtain ⟨F1, F2, F3⟩ := unhide FIN w4 2 (.int .i64 s) ⟨qn, qp, s, qm⟩ (unhide HR4) (unhide HS4) hnm (.inr (.inr (.inl ⟨rfl, rfl, by rw [unhide HQX]⟩)))
    simp only [Nat.zero_add] at F1 F2 F3
    clear hs4 hb4 hat hg4 hq
    go_wp2
    go_ret
    exact ⟨qb, n, qc, _, rfl, F1, ⟨by omega, hn3⟩, hqc, by omega, F2, F3⟩
  · have hq := hide (ints_alloc w3 3 [-1, 10001, 0] (by decide))
    go_wp2_with fail
    refine (pick_st w3.heap.size 3 3 _ ((unhide HS3).alloc _).rebase (unhide hq) (by omega) (by decide) (by decide)).mono ?_
    rintro e w4 ⟨s, rfl, _, _, hs4⟩
    have hg4 := grownBy_trans (grownBy_below (grownBy_refl w3 (some g)) (below_al (Below.refl _ w3) _)) hs4.2.2.1
    have HS4 := hide ((unhide HS3).step hs4.1 hg4)
    have HR4 := hide ((unhide HR3).gro (by omega) hg4 (by intro e; cases e; omega))
    have hb4 := (hg4.block qb (by omega) (by intro e; cases e; omega)).trans (unhide HB3)
    obtain ⟨b', off', e', hat⟩ := ((unhide HR4).at hXl)
    cases e'
    have c0 := (hat hXls).2.2.2
    have f0 : w4.frozen? ⟨qb, X * 4 + 3, none⟩ = false := by simp [World.frozen?, hb4]
    simp only [Nat.zero_add] at c0
    obtain ⟨F1, F2, F3⟩ := unhide FIN w4 3 (.int .i64 s) ⟨qn, qp, qd, s⟩ (unhide HR4) (unhide HS4) hnm (.inr (.inr (.inr ⟨rfl, rfl, by rw [unhide HQX]⟩)))
    simp only [Nat.zero_add] at F1 F2 F3
    clear hs4 hb4 hat hg4 hq
    go_wp2
    go_ret
    exact ⟨qb, n, qc, _, rfl, F1, ⟨by omega, hn3⟩, hqc, by omega, F2, F3⟩
  · go_wp2
    go_loopw [3] (fun v wr => ∃ ls', v.ownBlock = v.ownBlock ∧ Hid (QDr w.heap.size wr v ls') ∧ 3 ≤ ls'.length ∧ ls'.length ≤ 21 ∧ Hid (Brief ls') ∧ Hid (St w0 B g ao len cap wr) ∧ w1.heap.size ≤ wr.heap.size) (fun v _ => 21 - lenOf v)
    case atStart => exact ⟨ls, rfl, HQ3, by have := unhide HN; omega, by have := unhide HN; omega, HBR, HS3, by omega⟩
    case round =>
      obtain ⟨ls', _, HQr, hl3, hl21, HBRr, HSr, hszr⟩ := hrel
      obtain ⟨qb', qc', cur', rfl, hrow, hqc', hwq', hblk⟩ := (unhide HQr).row (by intro e; rw [e] at hl3; simp at hl3)
      obtain ⟨m, hm⟩ : ∃ n, ls'.length = n := ⟨_, rfl⟩
      have HM := hide hm
      rw [hm] at hl3 hl21 hqc' HQr ⊢
      clear hrow hblk hm
      go_wp2_with fail
      refine (below_st 2 _ (unhide HSr) (by decide) (by decide)).mono ?_
      rintro e w5 ⟨y, rfl, hy0, hy1, hs5, hg5⟩
      have HS5 := hide hs5
      have HQ5 := hide ((unhide HQr).kept hg5 (fun k e => by cases e; omega))
      have hsz5 : wr.heap.size ≤ w5.heap.size := hg5.size
      clear hs5 hg5 HSr HQr
      by_cases hlt : (m : Int) < 20 + y
      · have hit := Lib.itoa_length_le (100 + (m : Int)) (by omega) (by omega)
        have CD := hide (fun wx => (specDecText_any (100 + (m : Int)) wx (by omega) (by omega)).mono (fun e w' (h : _ ∧ w' = wx) => (show _ ∧ wx = w' from ⟨h.1, h.2.symm⟩)))
        have hzz := bs_z (Lib.itoa (100 + (m : Int)))
        have hsi : (bs (Lib.itoa (100 + (m : Int)))).size ≤ 30 := by rw [bs_size]; omega
        have hnl : (122 :: Lib.itoa (100 + (m : Int))).length ≤ 1000 := by simp; omega
        obtain ⟨it, hite⟩ : ∃ l, Lib.itoa (100 + (m : Int)) = l := ⟨_, rfl⟩
        rw [hite] at CD hzz hsi hnl
        obtain ⟨nz, hnz⟩ : ∃ l, 122 :: it = l := ⟨_, rfl⟩
        rw [hnz] at hzz hnl
        have n1 : ¬ 9223372036854775807 < 1 + (bs it).size := by omega
        obtain ⟨sb, hsb⟩ : ∃ s, bs it = s := ⟨_, rfl⟩
        rw [hsb] at CD hzz hsi n1
        have hown : w5.ownsRow w.heap.size 39 4 _ ls'.length (dcells ls') := unhide HQ5
        rw [unhide HM] at hown
        have hs2 : w.heap.size ≤ w5.heap.size := by omega
        clear hit hite hnz hsb
        go_wp2_with (first
          | (go_at_call 33; refine (unhide CD _).mono ?_; rintro e w6 ⟨rfl, rfl⟩)
          | (at_builtin; refine wpList_append_own _ rfl _ _ 24 rfl w.heap.size 39 i0 (.agg #[.string ByteArray.empty, .string ByteArray.empty, .int .i64 0, .int .i64 0]) 4 48 Tryz.underlying24 hi hz0 hz1 hz2 rfl (by decide) _ _ _ rfl (hown.alloc _) ⟨w5.heap.size, 0, none⟩ 1 1 (dcell ⟨nz, [114, 111, 111, 116], 0, 5⟩) rfl rfl ?c1 ?c2 ?c3 ?c4 ?c5 ?_))
        case c1 =>
          intro j x hj
          match j, hj with
          | 0, hj => simp at hj; subst hj; simp [Addr.add]
          | 1, hj => simp at hj; subst hj; simp [Addr.add]; rfl
          | 2, hj => simp at hj; subst hj; simp [Addr.add]
          | 3, hj => simp at hj; subst hj; simp [Addr.add]
          | _ + 4, hj => simp at hj
        case c2 => intro x hx; simp at hx; rcases hx with rfl | rfl | rfl | rfl <;> rfl
        case c3 => unfold maxLen; omega
        case c4 => omega
        case c5 => simp at hs2 ⊢; omega
        intro v' w7 hown' hgrow _
        have HQ7 := hide (show QDr w.heap.size w7 v' (ls' ++ [⟨nz, [114, 111, 111, 116], 0, 5⟩]) by unfold QDr; rw [dcells_app, List.length_append, unhide HM]; exact hown')
        have HS7 := hide (((unhide HS5).alloc _).gro hgrow (fun k hk => by
          rcases (unhide HQ5).2 with ⟨e, _⟩ | ⟨q, _, _, e, hq, _⟩
          · rw [e] at hk; simp [Value.ownBlock] at hk
          · rw [e] at hk; simp [Value.ownBlock] at hk; omega))
        have hsz7 : w5.heap.size + 1 ≤ w7.heap.size := by have := hgrow.size; rwa [World.size_alloc] at this
        have hlen7 : lenOf v' = m + 1 := by
          rcases (unhide HQ7).2 with ⟨_, h0⟩ | ⟨a, b, c, e, _⟩
          · simp at h0
          · rw [e]; simp [lenOf, unhide HM]
        have HL7 := hide hlen7
        clear hown' hgrow hown hlen7
        go_wp2
        go_roundw
        case rel =>
          refine ⟨ls' ++ [⟨nz, [114, 111, 111, 116], 0, 5⟩], by trivial, HQ7, by simp; have := unhide HM; omega, by simp; have := unhide HM; omega, hide ?_, HS7, by omega⟩
          intro q hq
          rcases List.mem_append.1 hq with hq | hq
          · exact unhide HBRr q hq
          · have : q = ⟨nz, [114, 111, 111, 116], 0, 5⟩ := by simpa using hq
            rw [this]; exact hnl
        case measure => rw [unhide HL7]; simp [lenOf]; omega
      · obtain ⟨HRW, hle⟩ : Hid (QRow w5 (some ⟨qb', 0, none⟩) m ls') ∧ m ≤ qc' := by
          obtain ⟨qb2, qc2, cur2, e2, hrow2, hqc2, _, _⟩ := (unhide HQ5).row (by intro e; have := unhide HM; rw [e] at this; simp at this; omega)
          rw [unhide HM] at e2 hrow2 hqc2
          cases e2
          exact ⟨hide hrow2, hqc2⟩
        go_wp2
        go_ret
        exact ⟨qb', m, qc', ls', rfl, HRW, ⟨by omega, hl3⟩, hle, by omega, HBRr, HS5⟩
  · have e0 : (k == 0) = false := by simp; omega
    have e1 : (k == 1) = false := by simp; omega
    have e2 : (k == 2) = false := by simp; omega
    have e3 : (k == 3) = false := by simp; omega
    have e4 : (k == 4) = false := by simp; omega
    go_wp2
    go_ret
    exact ⟨qb, n, qc, ls, rfl, HR3, ⟨by omega, hn3⟩, hqc, by omega, HBR, HS3⟩
theorem QRow.blk_lt {w : World} {b off n : Nat} {l : List Q} (h : QRow w (some ⟨b, off, none⟩) n l) (hn : 0 < n) : b < w.heap.size := by
  obtain ⟨b', off', e, hq⟩ := h.at hn
  cases e
  exact (hq (by have := h.1; omega)).lt
end Go.Proofs.YtebaejokhpdbkaaGreatDoor

/-
  A tree of queues, a name and an amount that are drawn: l03Asked, DrawDueOf; walks over the dump.
-/
namespace Go.Proofs.YtebaejokhpdbkaaGreatDoor
open Go.RowKit
set_option linter.unusedVariables false

/-- what is drawn -/
def Asked (w w' : World) (qb n c : Nat) (ls : List Q) (nm : List UInt8) : Prop := QRow w' (some ⟨qb, 0, none⟩) n ls ∧ n ≤ c ∧ n ≤ 1000 ∧ 3 ≤ n ∧ Brief ls ∧ nm.length ≤ 12 ∧ Below w.heap.size w w' ∧ w.heap.size < qb

theorem QRow.other4 {w : World} {b off n : Nat} {l : List Q} (h : QRow w (some ⟨b, off, none⟩) n l) (k j : Nat) (v : Value) (hn : b ≠ k) : QRow (w.setCell ⟨k, j, none⟩ v) (some ⟨b, off, none⟩) n l := by
  have hc : ∀ p, (w.setCell ⟨k, j, none⟩ v).cell? ⟨b, p, none⟩ = w.cell? ⟨b, p, none⟩ := fun p => by unfold World.cell?; rw [heap_setCell_other w ⟨k, j, none⟩ b v hn]
  obtain ⟨h1, h2⟩ := h
  refine ⟨h1, ?_⟩
  rcases h2 with h2 | ⟨b', off', e, h4⟩
  · exact .inl h2
  · cases e
    exact .inr ⟨b, off, rfl, fun i hi => by obtain ⟨a0, a1, a2, a3⟩ := h4 i hi; exact ⟨(hc _).trans a0, (hc _).trans a1, (hc _).trans a2, (hc _).trans a3⟩⟩
theorem Asked.drew {w wx : World} {qb n c : Nat} {ls : List Q} {nm : List UInt8} (h : Asked w wx qb n c ls nm) : Asked w wx.drew qb n c ls nm := ⟨h.1, h.2.1, h.2.2.1, h.2.2.2.1, h.2.2.2.2.1, h.2.2.2.2.2.1, h.2.2.2.2.2.2.1.drew, h.2.2.2.2.2.2.2⟩
/-- the answer's variable is written last -/
theorem askedset {w wx : World} {qb n c : Nat} {ls : List Q} {nm : List UInt8} (h : Asked w wx qb n c ls nm) (x y : Value) : Asked w ((wx.setCell ⟨w.heap.size, 0, none⟩ x).setCell ⟨w.heap.size, 1, none⟩ y) qb n c ls nm :=
  have hq := h.2.2.2.2.2.2.2
  ⟨(h.1.other4 _ _ _ (by omega)).other4 _ _ _ (by omega), h.2.1, h.2.2.1, h.2.2.2.1, h.2.2.2.2.1, h.2.2.2.2.2.1, below_sc (below_sc h.2.2.2.2.2.2.1 _ _ _ (Nat.le_refl _)) _ _ _ (Nat.le_refl _), hq⟩

set_option maxRecDepth 100000 in
set_option maxHeartbeats 4000000 in
theorem asked_any (B : Nat) (ao : Option Addr) (len cap : Nat) (w : World) (hcode : Code w B ao len) :
    Calls Tryz.prog 20 #[.slice ao len cap] w fun e w' => ∃ qb n c ls nm a b, e = .returned (.tuple #[.slice (some ⟨qb, 0, none⟩) n c, .string (bs nm), rv a b]) ∧ Hid (Asked w w' qb n c ls nm) := by
  have HC := hide (hcode.below (below_al (Below.refl _ w) (.cells #[.int .i64 0, .int .i64 0] 41)) hcode.1)
  have V0 := hide (var_new w 41 0 0)
  have hB := hcode.1
  clear hcode
  go_enter Tryz.func20, Tryz.ntmps20
  go_wp2_with fail
  refine (new_st B ao len cap _ (unhide HC)).mono ?_
  rintro e w1 ⟨rfl, hs1⟩
  rw [World.size_alloc] at hs1 ⊢
  have HS1 := hide hs1
  have V1 := hide ((unhide V0).grown hs1.2.2.1 (by omega))
  have hsz1 := hs1.1.lt
  clear hs1 V0 HC
  go_wp2_with fail
  refine (queues_st w1 (unhide HS1).rebase).mono ?_
  rintro e w2 ⟨qb, n, c, ls, rfl, HR, ⟨hgq, hn3⟩, hnc, hnk, HBR, HSq⟩
  have HS2 := hide ((unhide HS1).step (unhide HSq).1 (unhide HSq).2.2.1)
  have V2 := hide ((unhide V1).grown (unhide HSq).2.2.1 (by omega))
  have hqb := (unhide HR).blk_lt (by omega)
  have hq := hide (pickt_alloc w2 9 [⟨#[114, 111, 111, 116]⟩, ⟨#[97]⟩, ⟨#[98]⟩, ⟨#[98, 49]⟩, ⟨#[98, 50]⟩, ⟨#[110, 111, 110, 101]⟩] (by decide))
  have hsz2 := (unhide HS2).1.lt
  clear HS1 HSq V1
  go_wp2_with fail
  refine (pickS_st w2.heap.size 6 6 _ ((unhide HS2).alloc _).rebase (unhide hq) (by omega) (by decide) (by decide)).mono ?_
  rintro e w3 ⟨s, rfl, hsz, hs3⟩
  have hg3 := grownBy_trans (grownBy_below (grownBy_refl w2 (some (w.heap.size + 1))) (below_al (Below.refl _ w2) _)) hs3.2.2.1
  have HS3 := hide ((unhide HS2).step hs3.1 hg3)
  have HR3 := hide ((unhide HR).gro hqb hg3 (by intro e; cases e; omega))
  have V3 := hide ((unhide V2).grown hg3 (by omega))
  have hsz3 : w2.heap.size ≤ w3.heap.size := hg3.size
  obtain ⟨nm, rfl⟩ : ∃ l, s = bs l := ⟨s.data.toList, by simp [bs]⟩
  rw [bs_size] at hsz
  clear hs3 hg3 hq HS2 HR V2
  go_wp2_with fail
  refine (l02Res_st w3 (unhide HS3)).mono ?_
  rintro e w4 ⟨a, b, rfl, _, _, hs4, hg4⟩
  have HS4 := hide (hs4.alloc (.cells #[.int .i64 a, .int .i64 b] 41))
  have HR4 := hide (((unhide HR3).gro (by omega) hg4 (by intro e; cases e; omega)).below (below_al (Below.refl _ w4) (.cells #[.int .i64 a, .int .i64 b] 41)))
  have V4 := hide (((unhide V3).grown hg4 (by omega)).al (.cells #[.int .i64 a, .int .i64 b] 41))
  have T4 := hide (var_new w4 41 a b)
  have hsz4 : w3.heap.size ≤ w4.heap.size := hg4.size
  clear hs4 hg4 HS3 HR3 V3
  go_wp2_with fail
  refine (once_st 2 _ (unhide HS4).rebase (by decide) (by decide)).mono ?_
  rintro e w5 ⟨x, rfl, hs5⟩
  have hsz5 : w4.heap.size + 1 ≤ w5.heap.size := by have := hs5.2.2.1.size; rwa [World.size_alloc] at this
  have HS5 := hide ((unhide HS4).step hs5.1 hs5.2.2.1)
  have HR5 := hide ((unhide HR4).gro (by rw [World.size_alloc]; omega) hs5.2.2.1 (by intro e; cases e; omega))
  have V5 := hide ((unhide V4).grown hs5.2.2.1 (by omega))
  have T5 := hide ((unhide T4).grown hs5.2.2.1 (by omega))
  have HBW := hide (show Below w.heap.size w w5 by
    have h1 := (unhide HS5).2.2.1
    exact (below_al (Below.refl _ w) (.cells #[.int .i64 0, .int .i64 0] 41)).grown h1 (by simp) (fun k e => by cases e; omega))
  clear hs5 HS4 HR4 V4 T4 HS5
  have t0 := (unhide T5).c0
  have t1 := (unhide T5).c1
  have tf0 := (unhide T5).f 0
  have tf1 := (unhide T5).f 1
  have v0 := (unhide V5).c0
  have v1 := (unhide V5).c1
  have vf0 := (unhide V5).f 0
  have vf1 := (unhide V5).f 1
  cases x with
  | true =>
    have T6 := (unhide T5).set 1000 77
    have V6 := hide (((unhide V5).other w4.heap.size 0 (.int .i64 1000) (by omega)).other w4.heap.size 1 (.int .i64 77) (by omega))
    have s0 := T6.c0
    have s1 := T6.c1
    have a0 := (unhide V6).c0
    have a1 := (unhide V6).c1
    have af0 := (unhide V6).f 0
    have af1 := (unhide V6).f 1
    have k4 := (unhide V6).s0 (.int .i64 1000)
    have k5 := (unhide V6).s1 (.int .i64 1000) (.int .i64 77)
    have HFIN := hide (show Asked w _ qb n c ls nm from ⟨((unhide HR5).other4 w4.heap.size 0 (.int .i64 1000) (by omega)).other4 w4.heap.size 1 (.int .i64 77) (by omega), hnc, hnk, hn3, unhide HBR, hsz, below_sc (below_sc (unhide HBW) _ _ _ (show w.heap.size ≤ w4.heap.size by omega)) _ _ _ (show w.heap.size ≤ w4.heap.size by omega), by omega⟩)
    go_wp2_with fail
    go_region_with (fail)
    all_goals go_wp2
    all_goals
      refine bodyPost_ret (v := .tuple #[.slice (some ⟨qb, 0, none⟩) n c, .string (bs nm), rv 1000 77]) (by simp [results, Tryz.results20, go_sem, k4, k5]) rfl ⟨qb, n, c, ls, nm, 1000, 77, rfl, hide ?_⟩
      first | exact askedset (unhide HFIN) _ _ | exact (askedset (unhide HFIN) _ _).drew
  | false =>
    have k4 := (unhide V5).s0 (.int .i64 a)
    have k5 := (unhide V5).s1 (.int .i64 a) (.int .i64 b)
    have HFIN := hide (show Asked w w5 qb n c ls nm from ⟨unhide HR5, hnc, hnk, hn3, unhide HBR, hsz, unhide HBW, by omega⟩)
    go_wp2_with fail
    go_region_with (fail)
    all_goals go_wp2
    all_goals
      refine bodyPost_ret (v := .tuple #[.slice (some ⟨qb, 0, none⟩) n c, .string (bs nm), rv a b]) (by simp [results, Tryz.results20, go_sem, k4, k5]) rfl ⟨qb, n, c, ls, nm, a, b, rfl, hide ?_⟩
      first | exact askedset (unhide HFIN) _ _ | exact (askedset (unhide HFIN) _ _).drew

end Go.Proofs.YtebaejokhpdbkaaGreatDoor
