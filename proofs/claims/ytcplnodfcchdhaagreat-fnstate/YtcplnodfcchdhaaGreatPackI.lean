/-
  Several texts of this claim in one: QDraw, DrA, RowE (pack.py put them together); each says in its own remark what is proved.
-/
import Derived.Test.YtcplnodfcchdhaaGreatPackA
import Derived.Test.YtcplnodfcchdhaaGreatPackH
import Derived.Lib.ItoaLen
import Derived.Maps.Range
import Derived.Laws.AppendOwn
import Derived.Test.YtcplnodfcchdhaaGreatPackG
import Derived.Test.YtcplnodfcchdhaaGreatPackF
import Derived.Test.YtcplnodfcchdhaaGreatPackD
import Derived.Test.YtcplnodfcchdhaaGreatPackE
import Derived.Lib.SliceRun
/-
  Queues that are drawn: l03Right, l03Queues, l03Asked; each within its bounds; walks over the dump.
-/
namespace Go.Proofs.YtcplnodfcchdhaaGreat
open Go.RowKit
set_option linter.unusedVariables false
abbrev dcell (q : Q) : List Value := [.string (bs q.name), .string (bs q.parent), .int .i64 q.due, .int .i64 q.most]
def dcells : List Q → List Value
  | [] => []
  | q :: t => dcell q ++ dcells t
theorem dcells_app (a b : List Q) : dcells (a ++ b) = dcells a ++ dcells b := by
  induction a with
  | nil => rfl
  | cons x t ih => rw [List.cons_append, dcells, dcells, ih, List.append_assoc]
theorem dcells_len : ∀ l : List Q, (dcells l).length = l.length * 4
  | [] => rfl
  | q :: t => by rw [dcells, List.length_append, dcells_len t]; simp; omega
theorem dcells_at : ∀ (l : List Q) (i : Nat) (h : i < l.length), (dcells l)[i * 4]? = some (.string (bs l[i].name)) ∧ (dcells l)[i * 4 + 1]? = some (.string (bs l[i].parent)) ∧ (dcells l)[i * 4 + 2]? = some (.int .i64 l[i].due) ∧ (dcells l)[i * 4 + 3]? = some (.int .i64 l[i].most)
  | q :: t, 0, _ => ⟨rfl, rfl, rfl, rfl⟩
  | q :: t, i + 1, h => by
    have e := dcells_at t i (by simpa using h)
    have k : ∀ j, (dcells (q :: t))[(i + 1) * 4 + j]? = (dcells t)[i * 4 + j]? := fun j => by
      rw [dcells, show (i + 1) * 4 + j = (dcell q).length + (i * 4 + j) by simp; omega, List.getElem?_append_right (by omega)]
      congr 1
      omega
    have k0 := k 0
    simp only [Nat.add_zero] at k0
    rw [k0, k 1, k 2, k 3]
    simpa using e
/-- v is a list of these queues, in memory of its own from block B on -/
def QDr (B : Nat) (w : World) (v : Value) (l : List Q) : Prop := w.ownsRow B 59 4 v l.length (dcells l)
theorem QDr.kept {w w' : World} {B : Nat} {v : Value} {l : List Q} {row : Option Nat} (h : QDr B w v l) (hg : w.grownBy w' row) (hr : ∀ k, row = some k → k < B) : QDr B w' v l := by
  refine World.ownsRow.kept h hg ?_
  rcases h.2 with ⟨rfl, _⟩ | ⟨g, cap, cur, rfl, hg', _⟩
  · exact .inl rfl
  · right
    intro e
    have := hr g e.symm
    omega
theorem QDr.below {w w' : World} {B : Nat} {v : Value} {l : List Q} (h : QDr B w v l) (hb : Below w.heap.size w w') : QDr B w' v l := h.kept (grownBy_below (grownBy_refl w none) hb) (fun k e => by cases e)
theorem QDr.row {w : World} {B : Nat} {v : Value} {l : List Q} (h : QDr B w v l) (hl : l ≠ []) : ∃ g cap cur, v = .slice (some ⟨g, 0, none⟩) l.length cap ∧ QRow w (some ⟨g, 0, none⟩) l.length l ∧ l.length ≤ cap ∧ B ≤ g ∧ w.heap[g]? = some (.cells cur 59 (0, 0)) := by
  rcases h.2 with ⟨rfl, h0⟩ | ⟨g, cap, cur, rfl, h1, h2, h3, h4, h5, h6⟩
  · exact absurd (List.length_eq_zero_iff.1 h0) hl
  · refine ⟨g, cap, cur, rfl, ⟨rfl, .inr ⟨g, 0, rfl, fun i hi => ?_⟩⟩, h3, h1, h2⟩
    obtain ⟨a, b, c, d⟩ := dcells_at l i hi
    have k : ∀ j (v : Value), j < l.length * 4 → (dcells l)[j]? = some v → w.cell? ⟨g, j, none⟩ = some v := fun j v hj hv => by
      rw [← h6, List.getElem?_take_of_lt hj] at hv
      simp [World.cell?, h2]
      simpa using hv
    unfold QAt
    rw [Nat.zero_add]
    exact ⟨k _ _ (by omega) a, k _ _ (by omega) b, k _ _ (by omega) c, k _ _ (by omega) d⟩
theorem qdr_lit (w : World) (l : List Q) (n : Nat) (hn : l.length = n) (hm : n ≤ 1000) : QDr w.heap.size (w.alloc (.cells (dcells l).toArray 59)) (.slice (some ⟨w.heap.size, 0, none⟩) n n) l := by
  subst hn
  refine ⟨dcells_len l, .inr ⟨w.heap.size, l.length, (dcells l).toArray, rfl, Nat.le_refl _, by show (w.heap.push _)[w.heap.size]? = _; simp, Nat.le_refl _, by unfold maxLen; omega, by simp [dcells_len], ?_⟩⟩
  rw [← dcells_len]
  simp
theorem QRow.put {w : World} {b off len : Nat} {l : List Q} (h : QRow w (some ⟨b, off, none⟩) len l) (i : Nat) (hi : i < l.length) (q : Q) (j : Nat) (x : Value)
    (hx : (j = 0 ∧ x = .string (bs q.name) ∧ q = { l[i] with name := q.name }) ∨ (j = 1 ∧ x = .string (bs q.parent) ∧ q = { l[i] with parent := q.parent }) ∨ (j = 2 ∧ x = .int .i64 q.due ∧ q = { l[i] with due := q.due }) ∨ (j = 3 ∧ x = .int .i64 q.most ∧ q = { l[i] with most := q.most })) :
    QRow (w.setCell ⟨b, off + i * 4 + j, none⟩ x) (some ⟨b, off, none⟩) len (l.set i q) := by
  obtain ⟨h1, h2⟩ := h
  have hl : len ≠ 0 := by omega
  rcases h2 with h2 | ⟨b', off', e, h4⟩
  · exact absurd h2 hl
  · cases e
    have hot : ∀ p, p ≠ off + i * 4 + j → (w.setCell ⟨b, off + i * 4 + j, none⟩ x).cell? ⟨b, p, none⟩ = w.cell? ⟨b, p, none⟩ := fun p hp => World.cell?_setCell_other _ ⟨b, off + i * 4 + j, none⟩ ⟨b, p, none⟩ _ (by intro e; have := congrArg Addr.off e; simp at this; omega)
    have hsame : ∀ v, w.cell? ⟨b, off + i * 4 + j, none⟩ = some v → (w.setCell ⟨b, off + i * 4 + j, none⟩ x).cell? ⟨b, off + i * 4 + j, none⟩ = some x := fun v hv => World.cell?_setCell_same w _ _ hv
    refine ⟨by simpa using h1, .inr ⟨b, off, rfl, fun k hk => ?_⟩⟩
    have hk' : k < l.length := by simpa using hk
    obtain ⟨a0, a1, a2, a3⟩ := h4 k hk'
    by_cases e : k = i
    · subst e
      rw [show (l.set k q)[k] = q by simp]
      rcases hx with ⟨rfl, rfl, hq⟩ | ⟨rfl, rfl, hq⟩ | ⟨rfl, rfl, hq⟩ | ⟨rfl, rfl, hq⟩
      · refine ⟨hsame _ a0, ?_, ?_, ?_⟩
        · rw [hot _ (by omega), a1, hq]
        · rw [hot _ (by omega), a2, hq]
        · rw [hot _ (by omega), a3, hq]
      · refine ⟨?_, hsame _ a1, ?_, ?_⟩
        · rw [hot _ (by omega), a0, hq]
        · rw [hot _ (by omega), a2, hq]
        · rw [hot _ (by omega), a3, hq]
      · refine ⟨?_, ?_, hsame _ a2, ?_⟩
        · rw [hot _ (by omega), a0, hq]
        · rw [hot _ (by omega), a1, hq]
        · rw [hot _ (by omega), a3, hq]
      · refine ⟨?_, ?_, ?_, hsame _ a3⟩
        · rw [hot _ (by omega), a0, hq]
        · rw [hot _ (by omega), a1, hq]
        · rw [hot _ (by omega), a2, hq]
    · rw [show (l.set i q)[k] = l[k] by rw [List.getElem_set_ne (fun h => e h.symm)]]
      have hj : j < 4 := by rcases hx with ⟨rfl, _⟩ | ⟨rfl, _⟩ | ⟨rfl, _⟩ | ⟨rfl, _⟩ <;> omega
      refine ⟨?_, ?_, ?_, ?_⟩
      · rw [hot _ (by omega), a0]
      · rw [hot _ (by omega), a1]
      · rw [hot _ (by omega), a2]
      · rw [hot _ (by omega), a3]
/-- names that are not long -/
def Brief (l : List Q) : Prop := ∀ q ∈ l, q.name.length ≤ 1000 ∧ q.parent.length ≤ 1000
theorem Brief.set {l : List Q} (h : Brief l) (i : Nat) (q : Q) (hq : q.name.length ≤ 1000 ∧ q.parent.length ≤ 1000) : Brief (l.set i q) := fun x hx => by
  rcases List.mem_or_eq_of_mem_set hx with hx | rfl
  · exact h x hx
  · exact hq
theorem CSt.gro {w0 w w' : World} {B g : Nat} {ao : Option Addr} {len cap : Nat} (h : CSt w0 B g ao len cap w) {row : Option Nat} (hg : w.grownBy w' row) (hr : ∀ k, row = some k → w0.heap.size ≤ k ∧ g < k) : CSt w0 B g ao len cap w' := by
  obtain ⟨⟨i, x, h1, h2⟩, hc, hgr, hB⟩ := h
  have hgl : g < w.heap.size := lt_of_block h1
  refine ⟨⟨i, x, (hg.block g hgl (fun e => by have := hr g e.symm; omega)).trans h1, h2⟩, ?_, hgr.andThen hg (fun j hj => .inl (hr j hj).1), hB⟩
  exact hc.below ((Below.refl B w).grown hg hc.1 (fun k e => by have := hr k e; omega)) (Nat.le_refl _)
theorem Tryz.infoQD : (Tryz.prog.info? 59).map (fun i => (i.zero, i.size, i.bytes)) = some (some (.agg #[.string ByteArray.empty, .string ByteArray.empty, .int .i64 0, .int .i64 0]), 4, 48) := by kernel_rfl
end Go.Proofs.YtcplnodfcchdhaaGreat

/-
  A state in the making: what stands of it while the cursor moves, while its box is stored into, while one of its lists has one more.
-/
namespace Go.Proofs.YtcplnodfcchdhaaGreat
open Go.RowKit
set_option linter.unusedVariables false
/-- one more behind a row that has the room that it says, or none -/
theorem run_append_rm {P : Program} (w : World) (t ty e : TypeId) (i : TypeInfo) (z : Value) (size bytes : Nat) (ht : P.underlying t = some (.slice e)) (hi : P.info? e = some i) (hz : i.zero = some z)
    (hsize : i.size = size) (hby : i.bytes = bytes) (hzs : z.cells.size = size) (hsz : 0 < size)
    (B E : Nat) (ao : Option Addr) (n cap : Nat) (olds : List Value) (hrm : Own1 B E w e size ao cap) (hnc : n ≤ cap) (hB : B ≤ w.heap.size)
    (hlo : olds.length = n * size) (holds : ∀ b off, ao = some ⟨b, off, none⟩ → ∀ j u, olds[j]? = some u → w.cell? ⟨b, off + j, none⟩ = some u)
    (ad : Addr) (m c : Nat) (news : List Value) (hn : news.length = m * size) (hc : ∀ j u, news[j]? = some u → w.cell? (ad.add j) = some u) (h1c : ∀ u ∈ news, u.oneCell' = true) (hm : 0 < m)
    (b1 : n + m ≤ maxLen) (b2 : (n + m) * bytes ≤ 140737488355328) :
    ∃ g cap' w', (Builtin.append_ #[t, t] ty #[.slice ao n cap, .slice (some ad) m c]).run P w = .ok (.slice (some ⟨g, 0, none⟩) (n + m) cap') w' ∧ AppR B w e size ao (n + m) (olds ++ news) g cap' w' := by
  by_cases hr : n + m ≤ cap
  · rcases hrm with e0 | ⟨g, M, rfl, h1, h2, h3, h4⟩
    · omega
    · have hle : (n + m) * size ≤ M * size := Nat.mul_le_mul_right _ (by omega)
      rw [Nat.add_mul] at hle
      subst hsize
      refine ⟨g, cap, _, run_append_room_cells (P := P) w t ty e i ht hi g 0 n cap ad m c news hn hc h1c hr (fun j hj => h3.isThere (by omega)) (fun j hj => h3.frozen _), fun j u hj => ?_, ?_, hr, mks_cells ⟨_, h3, h1⟩ _ _ _ _ (Mks.refl _ _)⟩
      · by_cases hj2 : j < olds.length
        · rw [List.getElem?_append_left hj2] at hj
          rw [World.cell?_setCells_out g news (0 + n * i.size) w ⟨g, j, none⟩ (fun _ _ => by left; show j < 0 + n * i.size; omega)]
          have := holds g 0 rfl j u hj
          rwa [Nat.zero_add] at this
        · rw [List.getElem?_append_right (by omega)] at hj
          have hjl : j - olds.length < news.length := (List.getElem?_eq_some_iff.1 hj).1
          have := World.cell?_setCells_in g news (0 + n * i.size) w (fun k hk => h3.isThere (by omega)) (j - olds.length) hjl
          rw [show 0 + n * i.size + (j - olds.length) = j by omega] at this
          rw [this]
          rw [List.getElem?_eq_getElem hjl] at hj
          exact hj
      · have hk : Mks (fun k => k = g) w (w.setCells g (0 + n * i.size) news) := mks_cells (S := fun k => k = g) rfl _ _ _ _ (Mks.refl _ _)
        exact .inr ⟨g, M, rfl, h1, Nat.lt_of_lt_of_le h3.lt hk.size, hk.cel _ _ _ h3, h4⟩
  · have key : ∃ v' w', (Builtin.append_ #[t, t] ty #[.slice ao n cap, .slice (some ad) m c]).run P w = .ok v' w' ∧ w'.ownsRow w.heap.size e size v' (n + m) (olds ++ news) ∧ w.grownBy w' none := by
      cases ao with
      | none =>
        have h0 : cap = 0 := by
          rcases hrm with h0 | ⟨g, M, h1, _⟩
          · exact h0
          · cases h1
        have hn0 : n = 0 := by omega
        subst h0 hn0
        have ho : olds = [] := List.eq_nil_of_length_eq_zero (by omega)
        subst ho
        obtain ⟨v', w', hrun, r1, r2, _⟩ := run_append_own (P := P) w w.heap.size t ty e i z size bytes ht hi hz hsize hby hzs hsz (.slice none 0 0) 0 [] ⟨by simp, .inl ⟨rfl, rfl⟩⟩ ad m c news hn hc h1c b1 b2 (Nat.le_refl _)
        exact ⟨v', w', hrun, r1, r2⟩
      | some b =>
        refine run_append_arg_grows (P := P) w t ty e i z size bytes ht hi hz hsize hby hzs hsz b n cap olds hlo (fun j u hj => ?_) ad m c news hn hc (by omega) b1 b2
        rcases hrm with h0 | ⟨g, M, h1, _⟩
        · have hn0 : n = 0 := by omega
          rw [hn0, Nat.zero_mul] at hlo
          rw [List.eq_nil_of_length_eq_zero hlo] at hj
          simp at hj
        · cases h1
          rw [Addr.add_lit]
          exact holds g 0 rfl j u hj
    obtain ⟨v', w', hrun, h1, h2⟩ := key
    obtain ⟨g, cap', rfl, hg1, hg2⟩ := h1.form (by omega)
    have hb := below_none h2
    rcases h1.2 with ⟨e0, _⟩ | ⟨g', c', cur, e0, k1, k2, k3, k4, k5, k6⟩
    · cases e0
    · cases e0
      refine ⟨g, cap', w', hrun, fun j u hj => ?_, .inr ⟨g, cap', rfl, by omega, lt_of_block k2, ⟨cur, k2, k5⟩, Nat.le_refl _⟩, k3, Mks.of_below hb⟩
      have hjl : j < (olds ++ news).length := (List.getElem?_eq_some_iff.1 hj).1
      rw [← k6] at hj hjl
      rw [List.length_take] at hjl
      rw [List.getElem?_take_of_lt (by omega)] at hj
      simp [World.cell?, k2]
      simpa using hj

/-- blocks of S lie below B, or are of another type -/
def Off (B : Nat) (w : World) (t : TypeId) (S : Nat → Prop) : Prop := ∀ k, S k → k < B ∨ ∃ t' N, Cel w t' k N ∧ t' ≠ t
theorem own_off {B : Nat} {S : Nat → Prop} {w w' : World} {t : TypeId} {sz n : Nat} {ao : Option Addr} (h : Own1 B w.heap.size w t sz ao n) (hm : Mks S w w') (hS : Off B w t S) : (∀ k, inR ao n k → ¬ S k) ∧ Own1 B w'.heap.size w' t sz ao n := by
  refine ⟨fun k hk e => ?_, (h.mks hm).mono (Nat.le_refl _) hm.size⟩
  obtain ⟨h1, _, N', h2⟩ := h.lies k hk
  rcases hS k e with h3 | ⟨t', N, h3, h4⟩
  · omega
  · exact h4 (h3.type h2)
section
variable {B : Nat} {S : Nat → Prop} {w w' : World}
theorem QHas.off {n : Nat} {ao : Option Addr} {l : List Q} (h : QHas B w ao n l) (hm : Mks S w w') (hS : Off B w 59 S) : QHas B w' ao n l := ⟨h.1.mks hm (own_off h.2 hm hS).1, (own_off h.2 hm hS).2⟩
theorem MHas.off {n : Nat} {ao : Option Addr} {l : List Mac} (h : MHas B w ao n l) (hm : Mks S w w') (hS : Off B w 56 S) : MHas B w' ao n l := ⟨h.1.mks hm (own_off h.2 hm hS).1, (own_off h.2 hm hS).2⟩
theorem CHas.off {n : Nat} {ao : Option Addr} {l : List Con} (h : CHas B w ao n l) (hm : Mks S w w') (hS : Off B w 72 S) : CHas B w' ao n l := ⟨h.1.mks hm (own_off h.2 hm hS).1, (own_off h.2 hm hS).2⟩
theorem PHas.off {n : Nat} {ao : Option Addr} {l : List AV} (h : PHas B w ao n l) (hm : Mks S w w') (hS : Off B w 41 S) : PHas B w' ao n l := ⟨h.1.mks hm (own_off h.2 hm hS).1, (own_off h.2 hm hS).2⟩
theorem KHas.off {hs : List AV} {l : List Appl} (h : KHas B w hs l) (hm : Mks S w w') (hS : Off B w 96 S) : KHas B w' hs l :=
  ⟨⟨h.heads.1, fun i h1 h2 => let ⟨a, b', c, d⟩ := h.heads.2 i h1 h2; ⟨a, b', c.mks hm (own_off (h.own _ (List.getElem_mem h1)) hm hS).1, d⟩⟩, fun v hv => (own_off (h.own v hv) hm hS).2, h.apart⟩
/-- blocks below B, or of a type that no list has -/
structure OffA (B : Nat) (w : World) (S : Nat → Prop) : Prop where
  q : Off B w 59 S
  p : Off B w 41 S
  a : Off B w 96 S
  m : Off B w 56 S
  c : Off B w 72 S
theorem SHas.off {x : Sls} {s : St} {hs : List AV} (h : SHas B w x s hs) (hm : Mks S w w') (o : OffA B w S) : SHas B w' x s hs :=
  ⟨h.q.off hm o.q, h.p.off hm o.p, h.k.off hm o.a, h.m.off hm o.m, h.c.off hm o.c, h.cap, (h.rm.mks hm).mono (Nat.le_refl _) hm.size⟩
theorem off_low {g : Nat} (h : g < B) : OffA B w (fun k => k = g) := ⟨fun k e => .inl (e ▸ h), fun k e => .inl (e ▸ h), fun k e => .inl (e ▸ h), fun k e => .inl (e ▸ h), fun k e => .inl (e ▸ h)⟩
theorem off_blk {b : Nat} {arr : Array Value} {t : TypeId} (h : Blk w b arr t) (h1 : t ≠ 59) (h2 : t ≠ 41) (h3 : t ≠ 96) (h4 : t ≠ 56) (h5 : t ≠ 72) : OffA B w (fun k => k = b) :=
  have hc : ∀ k, k = b → Cel w t k arr.size := fun k e => by subst e; exact ⟨arr, h, rfl⟩
  ⟨fun k e => .inr ⟨t, _, hc k e, h1⟩, fun k e => .inr ⟨t, _, hc k e, h2⟩, fun k e => .inr ⟨t, _, hc k e, h3⟩, fun k e => .inr ⟨t, _, hc k e, h4⟩, fun k e => .inr ⟨t, _, hc k e, h5⟩⟩
theorem off_ty {t t' : TypeId} (ht : t' ≠ t) : Off B w t (fun k => ∃ N, Cel w t' k N ∧ B ≤ k) := fun k ⟨N, h, _⟩ => .inr ⟨t', N, h, ht⟩
end
/-- the cursor has moved -/
theorem cur_mks {w w' : World} {g : Nat} {ao : Option Addr} {len cap : Nat} (h : Cur w g ao len cap) (h' : Cur w' g ao len cap) (hg : w.grownBy w' (some g)) : Mks (fun k => k = g) w w' := by
  refine ⟨hg.os, hg.tape, hg.output, hg.size, fun k hk hne => hg.block k hk (fun e => hne (Option.some.inj e)), fun t k N hc => ?_⟩
  by_cases e : k = g
  · subst e
    obtain ⟨i, x, h1, _⟩ := h
    obtain ⟨i', x', h2, _⟩ := h'
    obtain ⟨arr, h3, h4⟩ := hc
    rw [h1] at h3
    cases h3
    exact ⟨_, h2, h4⟩
  · exact hc.of_block (hg.block k hc.lt (fun e' => e (Option.some.inj e')))
theorem CSt.mks {w0 w w' : World} {B g : Nat} {ao : Option Addr} {len cap : Nat} {S : Nat → Prop} (h : CSt w0 B g ao len cap w) (hm : Mks S w w') (hS : ∀ k, S k → w0.heap.size ≤ k ∧ g < k) : CSt w0 B g ao len cap w' := by
  obtain ⟨⟨i, x, h1, h2⟩, hc, hgr, hB⟩ := h
  refine ⟨⟨i, x, (hm.block g (lt_of_block h1) (fun e => absurd (hS g e).2 (Nat.lt_irrefl _))).trans h1, h2⟩, ?_, ⟨hm.os.trans hgr.os, hm.tape.trans hgr.tape, hm.output.trans hgr.output, Nat.le_trans hgr.size hm.size, fun k hk hne => (hm.block k (Nat.lt_of_lt_of_le hk hgr.size) (fun e => by have := (hS k e).1; omega)).trans (hgr.block k hk hne)⟩, hB⟩
  exact hc.below (hm.below (B := B) (fun k e => by have := (hS k e).2; omega) hc.1) (Nat.le_refl _)
end Go.Proofs.YtcplnodfcchdhaaGreat

/-
  Rows of cells that are edited in place: what begins a block; asks and containers as such rows; a store of many cells, a clear of one element.
-/
namespace Go.Proofs.YtcplnodfcchdhaaGreat
open Go.RowKit
set_option linter.unusedVariables false
theorem Lay.frozen {w : World} {t : TypeId} {g M : Nat} {cs : List Value} (h : Lay w t g M cs) (j : Nat) : w.frozen? ⟨g, j, none⟩ = false := h.cel.frozen j
theorem Lay.isThere {w : World} {t : TypeId} {g M : Nat} {cs : List Value} (h : Lay w t g M cs) {j : Nat} (hj : j < M) : (w.cell? ⟨g, j, none⟩).isSome = true := by
  obtain ⟨R, h1, h2⟩ := h
  have h3 : j < (cs ++ R).length := by omega
  simp [World.cell?, h1, List.getElem?_eq_getElem h3]
theorem Lay.drew {w : World} {t : TypeId} {g M : Nat} {cs : List Value} (h : Lay w t g M cs) : Lay w.drew t g M cs := h
theorem Lay.cells {w : World} {t : TypeId} {g M : Nat} {cs : List Value} (h : Lay w t g M cs) (o : Nat) (vs : List Value) (hf : o + vs.length ≤ M) (new : List Value) (hn : new.length ≤ M)
    (hi : ∀ j u, new[j]? = some u → (o ≤ j ∧ j < o + vs.length → vs[j - o]? = some u) ∧ (¬ (o ≤ j ∧ j < o + vs.length) → w.cell? ⟨g, j, none⟩ = some u)) : Lay (w.setCells g o vs) t g M new := by
  refine lay_of ?_ (fun j u hj => ?_) hn
  · exact (mks_cells (S := fun k => k = g) rfl vs o w w (Mks.refl _ _)).cel _ _ _ h.cel
  · by_cases e : o ≤ j ∧ j < o + vs.length
    · have h1 := World.cell?_setCells_in g vs o w (fun k hk => h.isThere (by omega)) (j - o) (by omega)
      rw [show o + (j - o) = j by omega] at h1
      rw [h1]
      have h2 := (hi j u hj).1 e
      rw [List.getElem?_eq_getElem (by omega)] at h2
      exact h2
    · rw [World.cell?_setCells_out g vs o w ⟨g, j, none⟩ (fun _ _ => by show j < o ∨ o + vs.length ≤ j; omega)]
      exact (hi j u hj).2 e
theorem Lay.rowA {w : World} {g M : Nat} {l : List Ask} (h : Lay w 96 g M (acells l)) : AskRow w (some ⟨g, 0, none⟩) l.length l := by
  refine ⟨rfl, .inr ⟨g, 0, rfl, fun i hi => ?_⟩⟩
  obtain ⟨a, b, c, d, e⟩ := acells_at l i hi
  rw [Nat.zero_add]
  exact ⟨h.cell a, h.cell b, h.cell c, h.cell d, h.cell e⟩
/-- a slice whose room is there, in a block of its own from B on -/
def Room1 (B : Nat) (w : World) (t : TypeId) (sz : Nat) (ao : Option Addr) (n cap : Nat) : Prop := n ≤ cap ∧ cap ≤ maxLen ∧ ((ao = none ∧ cap = 0) ∨ ∃ g M, ao = some ⟨g, 0, none⟩ ∧ B ≤ g ∧ Cel w t g (M * sz) ∧ cap ≤ M)
theorem Room1.mks {S : Nat → Prop} {B : Nat} {w w' : World} {t : TypeId} {sz n cap : Nat} {ao : Option Addr} (h : Room1 B w t sz ao n cap) (hm : Mks S w w') : Room1 B w' t sz ao n cap := by
  obtain ⟨h1, h2, h3⟩ := h
  refine ⟨h1, h2, ?_⟩
  rcases h3 with h3 | ⟨g, M, e, hB, hc, hM⟩
  · exact .inl h3
  · exact .inr ⟨g, M, e, hB, hm.cel _ _ _ hc, hM⟩
theorem Room1.below {B : Nat} {w w' : World} {t : TypeId} {sz n cap : Nat} {ao : Option Addr} (h : Room1 B w t sz ao n cap) (hb : Below w.heap.size w w') : Room1 B w' t sz ao n cap := h.mks (S := fun _ => False) (.of_below hb)
theorem Room1.own {B : Nat} {w : World} {t : TypeId} {sz n cap : Nat} {ao : Option Addr} (h : Room1 B w t sz ao n cap) : Own1 B w.heap.size w t sz ao n := by
  obtain ⟨h1, h2, h3⟩ := h
  rcases h3 with ⟨_, h3⟩ | ⟨g, M, e, hB, hc, hM⟩
  · exact .inl (by omega)
  · exact .inr ⟨g, M, e, hB, hc.lt, hc, by omega⟩
end Go.Proofs.YtcplnodfcchdhaaGreat
