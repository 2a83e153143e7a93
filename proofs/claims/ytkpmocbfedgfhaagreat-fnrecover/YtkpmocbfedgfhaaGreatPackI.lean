/-
  Several texts of this claim in one: MarkV, ScS, OwnM, OwnC, OwnP (pack.py put them together); each says in its own remark what is proved.
-/
import Derived.Test.YtkpmocbfedgfhaaGreatPackH
import Derived.Test.YtkpmocbfedgfhaaGreatPackA
import Derived.Test.YtkpmocbfedgfhaaGreatStAll
import Derived.Test.YtkpmocbfedgfhaaGreatPackE
import Derived.Laws.AppendOwn
import Derived.Lib.SliceRun
import Derived.Deep.RegionWith
/-
  A state that is an answer and owns its memory: what the laws' own markState turns in it, and heldState finds again; walks over the dump.
-/
namespace Go.Proofs.YtkpmocbfedgfhaaGreat
open Go.RowKit
set_option linter.unusedVariables false
/-- what is there of a list is no more than its room -/
structure SCap (x : Sls) : Prop where
  q : x.ql ≤ x.qc
  a : x.al ≤ x.ac
  m : x.ml ≤ x.mc
  c : x.cl ≤ x.cc
/-- each list's block has the room that the list says -/
def RmS (B E : Nat) (w : World) (x : Sls) (hs : List AV) : Prop := Own1 B E w 63 4 x.qa x.qc ∧ Own1 B E w 44 3 x.aa x.ac ∧ Own1 B E w 61 4 x.ma x.mc ∧ Own1 B E w 119 5 x.ca x.cc ∧ ∀ v ∈ hs, Own1 B E w 121 5 v.ao v.cap
theorem RmS.map {B E B' E' : Nat} {w w' : World} {x : Sls} {hs : List AV} (h : RmS B E w x hs) (f : ∀ {t : TypeId} {sz n : Nat} {ao : Option Addr}, Own1 B E w t sz ao n → Own1 B' E' w' t sz ao n) : RmS B' E' w' x hs := ⟨f h.1, f h.2.1, f h.2.2.1, f h.2.2.2.1, fun v hv => f (h.2.2.2.2 v hv)⟩
theorem RmS.below {B E : Nat} {w w' : World} {x : Sls} {hs : List AV} (h : RmS B E w x hs) (hb : Below w.heap.size w w') : RmS B E w' x hs := h.map (fun k => k.below hb)
theorem RmS.mono {B E B' E' : Nat} {w : World} {x : Sls} {hs : List AV} (h : RmS B E w x hs) (h1 : B' ≤ B) (h2 : E ≤ E') : RmS B' E' w x hs := h.map (fun k => k.mono h1 h2)
theorem RmS.mks {B E : Nat} {S : Nat → Prop} {w w' : World} {x : Sls} {hs : List AV} (h : RmS B E w x hs) (hm : Mks S w w') : RmS B E w' x hs := h.map (fun k => k.mks hm)
theorem RmS.sc {B E : Nat} {w : World} {x : Sls} {hs : List AV} (h : RmS B E w x hs) (k j : Nat) (v : Value) : RmS B E (w.setCell ⟨k, j, none⟩ v) x hs := h.map (fun o => o.sc k j v)
/-- a state whose lists lie in blocks of their own, from B on and below E -/
structure SAns (B E : Nat) (w : World) (x : Sls) (s : St) (hs : List AV) : Prop where
  row : SRow w x s
  q : Own1 B E w 63 4 x.qa x.ql
  a : Own1 B E w 44 3 x.aa x.al
  m : Own1 B E w 61 4 x.ma x.ml
  c : Own1 B E w 119 5 x.ca x.cl
  av : AVRow w x.aa x.al hs
  heads : Heads w hs s.apps
  asks : ∀ v ∈ hs, Own1 B E w 121 5 v.ao v.len
  apart : hs.Pairwise Apart
  cap : SCap x
  rm : RmS B E w x hs
theorem Heads.below {w w' : World} {hs : List AV} {l : List Appl} (h : Heads w hs l) (hb : Below w.heap.size w w') : Heads w' hs l := ⟨h.1, fun i h1 h2 => let ⟨a, b, c, d⟩ := h.2 i h1 h2; ⟨a, b, c.below hb, d⟩⟩
theorem SAns.below {B E : Nat} {w w' : World} {x : Sls} {s : St} {hs : List AV} (h : SAns B E w x s hs) (hb : Below w.heap.size w w') : SAns B E w' x s hs :=
  ⟨h.row.below hb, h.q.below hb, h.a.below hb, h.m.below hb, h.c.below hb, h.av.below hb, h.heads.below hb, fun v hv => (h.asks v hv).below hb, h.apart, h.cap, h.rm.below hb⟩
theorem SAns.mono {B E B' E' : Nat} {w : World} {x : Sls} {s : St} {hs : List AV} (h : SAns B E w x s hs) (h1 : B' ≤ B) (h2 : E ≤ E') : SAns B' E' w x s hs :=
  ⟨h.row, h.q.mono h1 h2, h.a.mono h1 h2, h.m.mono h1 h2, h.c.mono h1 h2, h.av, h.heads, fun v hv => (h.asks v hv).mono h1 h2, h.apart, h.cap, h.rm.mono h1 h2⟩
/-- what is turned lies outside of it -/
theorem SAns.mks {B E : Nat} {S : Nat → Prop} {w w' : World} {x : Sls} {s : St} {hs : List AV} (h : SAns B E w x s hs) (hm : Mks S w w') (hS : ∀ k, S k → k < B ∨ E ≤ k) : SAns B E w' x s hs := by
  have key : ∀ {t : TypeId} {sz n : Nat} {ao : Option Addr}, Own1 B E w t sz ao n → ∀ k, inR ao n k → ¬ S k := fun ho k hk hs => by
    obtain ⟨h1, h2, _⟩ := ho.lies k hk
    have := hS k hs
    omega
  have hrow : Heads w' hs s.apps := ⟨h.heads.1, fun i h1 h2 => by
    obtain ⟨a, b, c, d⟩ := h.heads.2 i h1 h2
    exact ⟨a, b, c.mks hm (key (h.asks _ (List.getElem_mem h1))), d⟩⟩
  have hav := h.av.mks hm (key h.a)
  refine ⟨⟨h.row.1.mks hm (key h.q), ?_, h.row.2.2.1.mks hm (key h.m), h.row.2.2.2.mks hm (key h.c)⟩, h.q.mks hm, h.a.mks hm, h.m.mks hm, h.c.mks hm, hav, hrow, fun v hv => (h.asks v hv).mks hm, h.apart, h.cap, h.rm.mks hm⟩
  refine ⟨h.row.2.1.1, ?_⟩
  rcases hav.2 with e | ⟨b, off, e, hh⟩
  · exact .inl e
  · refine .inr ⟨b, off, e, fun i hi => ?_⟩
    have hi' : i < hs.length := by rw [h.heads.1]; exact hi
    obtain ⟨a1, a2, a3, a4⟩ := hrow.2 i hi' hi
    obtain ⟨c1, c2, c3⟩ := hh i hi'
    rw [a1] at c1
    rw [a2] at c2
    exact ⟨hs[i].ao, hs[i].len, hs[i].cap, c1, c2, c3, a3, a4⟩
/-- a state that bears its marks -/
structure SMk (w : World) (x : Sls) (hs : List AV) : Prop where
  q : QRow w x.qa x.ql (marksQ x.ql)
  a : AVRow w x.aa x.al (hsM (1 + 4 * x.ql) hs)
  k : AsksM w (1 + 4 * x.ql) hs
  m : MacRow w x.ma x.ml (marksM (endM (1 + 4 * x.ql) hs) x.ml)
  c : ConRow w x.ca x.cl (marksC (endM (1 + 4 * x.ql) hs + 4 * x.ml) x.cl)
  z : x.ql = 0 ∨ ∃ g, x.qa = some ⟨g, 0, none⟩
theorem SMk.below {w w' : World} {x : Sls} {hs : List AV} (h : SMk w x hs) (hb : Below w.heap.size w w') : SMk w' x hs := ⟨h.q.below hb, h.a.below hb, AsksM.below hb _ _ h.k, h.m.below hb, h.c.below hb, h.z⟩
/-- the number behind all marks of a state -/
def endS (x : Sls) (hs : List AV) : Nat := endM (1 + 4 * x.ql) hs + 4 * x.ml + 5 * x.cl
end Go.Proofs.YtkpmocbfedgfhaaGreat

/-
  A cell written with what stands there: the same world.
-/
namespace Go.Proofs.YtkpmocbfedgfhaaGreat
open Go.RowKit
set_option linter.unusedVariables false
theorem set_idemS {arr : Array Value} {j : Nat} {x : Value} (h : arr[j]? = some x) : arr.setIfInBounds j x = arr := by
  apply Array.ext
  · simp
  · intro i h1 h2
    rw [Array.getElem_setIfInBounds]
    split
    · rename_i e
      subst e
      rw [Array.getElem?_eq_getElem h2] at h
      exact (Option.some.inj h).symm
    · rfl
/-- a cell that is written with what stands there: nothing turns -/
theorem sc_same {w : World} {g j : Nat} {x : Value} (h : w.cell? ⟨g, j, none⟩ = some x) : w.setCell ⟨g, j, none⟩ x = w := by
  cases ho : w.heap[g]? with
  | none => simp [World.cell?, ho] at h
  | some o =>
    cases o with
    | cells cur t fr =>
      have hx : cur[j]? = some x := by simpa [World.cell?, ho] using h
      rw [setCell_eq_setRow w g j cur t fr x ho, set_idemS hx]
      exact setRow_self w g cur t fr ho
    | _ => simp [World.cell?, ho] at h
end Go.Proofs.YtkpmocbfedgfhaaGreat

/-
  Lists of machines that own their memory; the library's Clone of them (mkown.py wrote this); walks over the dump.
-/
namespace Go.Proofs.YtkpmocbfedgfhaaGreat
open Go.RowKit
set_option linter.unusedVariables false
abbrev mcell (q : Mac) : List Value := [.string (bs q.name), .int .i64 q.mem, .int .i64 q.cpu, .int .i64 q.seen]
def mcells : List Mac → List Value
  | [] => []
  | q :: t => mcell q ++ mcells t
theorem mcells_len : ∀ l : List Mac, (mcells l).length = l.length * 4
  | [] => rfl
  | q :: t => by rw [mcells, List.length_append, mcells_len t]; simp; omega
theorem mcells_at : ∀ (l : List Mac) (i : Nat) (h : i < l.length), (mcells l)[i * 4]? = some (.string (bs l[i].name)) ∧ (mcells l)[i * 4 + 1]? = some (.int .i64 l[i].mem) ∧ (mcells l)[i * 4 + 2]? = some (.int .i64 l[i].cpu) ∧ (mcells l)[i * 4 + 3]? = some (.int .i64 l[i].seen)
  | q :: t, 0, _ => ⟨rfl, rfl, rfl, rfl⟩
  | q :: t, i + 1, h => by
    have e := mcells_at t i (by simpa using h)
    have k : ∀ j, (mcells (q :: t))[(i + 1) * 4 + j]? = (mcells t)[i * 4 + j]? := fun j => by
      rw [mcells, show (i + 1) * 4 + j = (mcell q).length + (i * 4 + j) by simp; omega, List.getElem?_append_right (by omega)]
      congr 1
      omega
    have k0 := k 0
    simp only [Nat.add_zero] at k0
    rw [k0, k 1, k 2, k 3]
    simpa using e
theorem mcells_row {w : World} {b off len : Nat} {l : List Mac} (h : MacRow w (some ⟨b, off, none⟩) len l) : ∀ j u, (mcells l)[j]? = some u → w.cell? ⟨b, off + j, none⟩ = some u := fun j u hj => by
  have hjl : j < l.length * 4 := by rw [← mcells_len]; exact (List.getElem?_eq_some_iff.1 hj).1
  obtain ⟨h1, h2⟩ := h
  rcases h2 with h2 | ⟨b', off', e, h4⟩
  · omega
  · cases e
    have hi : j / 4 < l.length := by omega
    obtain ⟨a0, a1, a2, a3⟩ := mcells_at l (j / 4) hi
    obtain ⟨c0, c1, c2, c3⟩ := h4 (j / 4) hi
    rcases (show j % 4 = 0 ∨ j % 4 = 1 ∨ j % 4 = 2 ∨ j % 4 = 3 by omega) with e | e | e | e
    · rw [show j = j / 4 * 4 by omega] at hj ⊢; rw [a0] at hj; cases hj; exact c0
    · rw [show j = j / 4 * 4 + 1 by omega] at hj ⊢; rw [a1] at hj; cases hj; rw [← Nat.add_assoc]; exact c1
    · rw [show j = j / 4 * 4 + 2 by omega] at hj ⊢; rw [a2] at hj; cases hj; rw [← Nat.add_assoc]; exact c2
    · rw [show j = j / 4 * 4 + 3 by omega] at hj ⊢; rw [a3] at hj; cases hj; rw [← Nat.add_assoc]; exact c3
theorem mcells_one : ∀ (l : List Mac), ∀ u ∈ mcells l, u.oneCell' = true
  | [], u, h => by simp [mcells] at h
  | q :: t, u, h => by
    rw [mcells, List.mem_append] at h
    rcases h with h | h
    · simp at h
      rcases h with rfl | rfl | rfl | rfl <;> rfl
    · exact mcells_one t u h
/-- v is a list of these machines, in memory of its own from block B on -/
def MOwn (B : Nat) (w : World) (v : Value) (l : List Mac) : Prop := w.ownsRow B 61 4 v l.length (mcells l)
theorem mown_empty (w : World) : w.alloc (.cells #[] 61) |>.ownsRow w.heap.size 61 4 (.slice (some ⟨w.heap.size, 0, none⟩) 0 0) 0 [] :=
  ⟨rfl, .inr ⟨w.heap.size, 0, #[], rfl, Nat.le_refl _, by show (w.heap.push _)[w.heap.size]? = _; simp, Nat.le_refl _, by unfold maxLen; omega, rfl, rfl⟩⟩
theorem mown_base {w : World} {B B' : Nat} {v : Value} {l : List Mac} (h : MOwn B w v l) (hb : B' ≤ B) : MOwn B' w v l := by
  obtain ⟨h1, h2⟩ := h
  refine ⟨h1, ?_⟩
  rcases h2 with h2 | ⟨g, cap, cur, a, b, c⟩
  · exact .inl h2
  · exact .inr ⟨g, cap, cur, a, Nat.le_trans hb b, c⟩
theorem mown_row {w : World} {B : Nat} {v : Value} {l : List Mac} (h : MOwn B w v l) : ∃ ao cap, v = .slice ao l.length cap ∧ MacRow w ao l.length l ∧ l.length ≤ cap ∧ (l ≠ [] → ∃ g cur, ao = some ⟨g, 0, none⟩ ∧ B ≤ g ∧ w.heap[g]? = some (.cells cur 61 (0, 0)) ∧ cur.size = cap * 4) := by
  rcases h.2 with ⟨rfl, h0⟩ | ⟨g, cap, cur, rfl, h1, h2, h3, h4, h5, h6⟩
  · exact ⟨none, 0, by rw [h0], ⟨rfl, .inl h0⟩, by omega, fun hn => absurd (List.length_eq_zero_iff.1 h0) hn⟩
  · refine ⟨some ⟨g, 0, none⟩, cap, rfl, ⟨rfl, .inr ⟨g, 0, rfl, fun i hi => ?_⟩⟩, h3, fun _ => ⟨g, cur, rfl, h1, h2, h5⟩⟩
    obtain ⟨a, b, c, d⟩ := mcells_at l i hi
    have k : ∀ j (v : Value), j < l.length * 4 → (mcells l)[j]? = some v → w.cell? ⟨g, j, none⟩ = some v := fun j v hj hv => by
      rw [← h6, List.getElem?_take_of_lt hj] at hv
      simp [World.cell?, h2]
      simpa using hv
    unfold MacAt
    rw [Nat.zero_add]
    exact ⟨k _ _ (by omega) a, k _ _ (by omega) b, k _ _ (by omega) c, k _ _ (by omega) d⟩
theorem Tryz.infoMachine : (Tryz.prog.info? 61).map (fun i => (i.zero, i.size, i.bytes)) = some (some (.agg #[.string ByteArray.empty, .int .i64 0, .int .i64 0, .int .i64 0]), 4, 40) := by kernel_rfl

end Go.Proofs.YtkpmocbfedgfhaaGreat

/-
  Lists of containers that own their memory; the library's Clone of them (mkown.py wrote this); walks over the dump.
-/
namespace Go.Proofs.YtkpmocbfedgfhaaGreat
open Go.RowKit
set_option linter.unusedVariables false
abbrev ccell (q : Con) : List Value := [.int .i64 q.id, .int .i64 q.app, .string (bs q.node), .int .i64 q.mem, .int .i64 q.cpu]
def ccells : List Con → List Value
  | [] => []
  | q :: t => ccell q ++ ccells t
theorem ccells_app (a : List Con) (q : Con) : ccells (a ++ [q]) = ccells a ++ ccell q := by
  induction a with
  | nil => rfl
  | cons x t ih => rw [List.cons_append, ccells, ccells, ih, List.append_assoc]
theorem ccells_len : ∀ l : List Con, (ccells l).length = l.length * 5
  | [] => rfl
  | q :: t => by rw [ccells, List.length_append, ccells_len t]; simp; omega
theorem ccells_at : ∀ (l : List Con) (i : Nat) (h : i < l.length), (ccells l)[i * 5]? = some (.int .i64 l[i].id) ∧ (ccells l)[i * 5 + 1]? = some (.int .i64 l[i].app) ∧ (ccells l)[i * 5 + 2]? = some (.string (bs l[i].node)) ∧ (ccells l)[i * 5 + 3]? = some (.int .i64 l[i].mem) ∧ (ccells l)[i * 5 + 4]? = some (.int .i64 l[i].cpu)
  | q :: t, 0, _ => ⟨rfl, rfl, rfl, rfl, rfl⟩
  | q :: t, i + 1, h => by
    have e := ccells_at t i (by simpa using h)
    have k : ∀ j, (ccells (q :: t))[(i + 1) * 5 + j]? = (ccells t)[i * 5 + j]? := fun j => by
      rw [ccells, show (i + 1) * 5 + j = (ccell q).length + (i * 5 + j) by simp; omega, List.getElem?_append_right (by omega)]
      congr 1
      omega
    have k0 := k 0
    simp only [Nat.add_zero] at k0
    rw [k0, k 1, k 2, k 3, k 4]
    simpa using e
theorem ccells_row {w : World} {b off len : Nat} {l : List Con} (h : ConRow w (some ⟨b, off, none⟩) len l) : ∀ j u, (ccells l)[j]? = some u → w.cell? ⟨b, off + j, none⟩ = some u := fun j u hj => by
  have hjl : j < l.length * 5 := by rw [← ccells_len]; exact (List.getElem?_eq_some_iff.1 hj).1
  obtain ⟨h1, h2⟩ := h
  rcases h2 with h2 | ⟨b', off', e, h4⟩
  · omega
  · cases e
    have hi : j / 5 < l.length := by omega
    obtain ⟨a0, a1, a2, a3, a4⟩ := ccells_at l (j / 5) hi
    obtain ⟨c0, c1, c2, c3, c4⟩ := h4 (j / 5) hi
    rcases (show j % 5 = 0 ∨ j % 5 = 1 ∨ j % 5 = 2 ∨ j % 5 = 3 ∨ j % 5 = 4 by omega) with e | e | e | e | e
    · rw [show j = j / 5 * 5 by omega] at hj ⊢; rw [a0] at hj; cases hj; exact c0
    · rw [show j = j / 5 * 5 + 1 by omega] at hj ⊢; rw [a1] at hj; cases hj; rw [← Nat.add_assoc]; exact c1
    · rw [show j = j / 5 * 5 + 2 by omega] at hj ⊢; rw [a2] at hj; cases hj; rw [← Nat.add_assoc]; exact c2
    · rw [show j = j / 5 * 5 + 3 by omega] at hj ⊢; rw [a3] at hj; cases hj; rw [← Nat.add_assoc]; exact c3
    · rw [show j = j / 5 * 5 + 4 by omega] at hj ⊢; rw [a4] at hj; cases hj; rw [← Nat.add_assoc]; exact c4
theorem ccells_one : ∀ (l : List Con), ∀ u ∈ ccells l, u.oneCell' = true
  | [], u, h => by simp [ccells] at h
  | q :: t, u, h => by
    rw [ccells, List.mem_append] at h
    rcases h with h | h
    · simp at h
      rcases h with rfl | rfl | rfl | rfl | rfl <;> rfl
    · exact ccells_one t u h
/-- v is a list of these containers, in memory of its own from block B on -/
def COwn (B : Nat) (w : World) (v : Value) (l : List Con) : Prop := w.ownsRow B 119 5 v l.length (ccells l)
theorem cown_nil (B : Nat) (w : World) : COwn B w (.slice none 0 0) [] := World.ownsRow_nil _ _ _ _
theorem cown_empty (w : World) : w.alloc (.cells #[] 119) |>.ownsRow w.heap.size 119 5 (.slice (some ⟨w.heap.size, 0, none⟩) 0 0) 0 [] :=
  ⟨rfl, .inr ⟨w.heap.size, 0, #[], rfl, Nat.le_refl _, by show (w.heap.push _)[w.heap.size]? = _; simp, Nat.le_refl _, by unfold maxLen; omega, rfl, rfl⟩⟩
theorem cown_below {w w' : World} {B : Nat} {v : Value} {l : List Con} (h : COwn B w v l) (hb : Below w.heap.size w w') : COwn B w' v l :=
  World.ownsRow.kept h (grownBy_below (grownBy_refl w none) hb) (by by_cases e : v.ownBlock = none; exact .inl e; exact .inr e)
theorem cown_base {w : World} {B B' : Nat} {v : Value} {l : List Con} (h : COwn B w v l) (hb : B' ≤ B) : COwn B' w v l := by
  obtain ⟨h1, h2⟩ := h
  refine ⟨h1, ?_⟩
  rcases h2 with h2 | ⟨g, cap, cur, a, b, c⟩
  · exact .inl h2
  · exact .inr ⟨g, cap, cur, a, Nat.le_trans hb b, c⟩
theorem cown_row {w : World} {B : Nat} {v : Value} {l : List Con} (h : COwn B w v l) : ∃ ao cap, v = .slice ao l.length cap ∧ ConRow w ao l.length l ∧ l.length ≤ cap ∧ (l ≠ [] → ∃ g cur, ao = some ⟨g, 0, none⟩ ∧ B ≤ g ∧ w.heap[g]? = some (.cells cur 119 (0, 0)) ∧ cur.size = cap * 5) := by
  rcases h.2 with ⟨rfl, h0⟩ | ⟨g, cap, cur, rfl, h1, h2, h3, h4, h5, h6⟩
  · exact ⟨none, 0, by rw [h0], ⟨rfl, .inl h0⟩, by omega, fun hn => absurd (List.length_eq_zero_iff.1 h0) hn⟩
  · refine ⟨some ⟨g, 0, none⟩, cap, rfl, ⟨rfl, .inr ⟨g, 0, rfl, fun i hi => ?_⟩⟩, h3, fun _ => ⟨g, cur, rfl, h1, h2, h5⟩⟩
    obtain ⟨a, b, c, d, e⟩ := ccells_at l i hi
    have k : ∀ j (v : Value), j < l.length * 5 → (ccells l)[j]? = some v → w.cell? ⟨g, j, none⟩ = some v := fun j v hj hv => by
      rw [← h6, List.getElem?_take_of_lt hj] at hv
      simp [World.cell?, h2]
      simpa using hv
    unfold ConAt
    rw [Nat.zero_add]
    exact ⟨k _ _ (by omega) a, k _ _ (by omega) b, k _ _ (by omega) c, k _ _ (by omega) d, k _ _ (by omega) e⟩
theorem cown_other {w : World} {B : Nat} {v : Value} {l : List Con} (h : COwn B w v l) (k j : Nat) (x : Value) (hk : k < B) : COwn B (w.setCell ⟨k, j, none⟩ x) v l := by
  obtain ⟨h1, h2⟩ := h
  refine ⟨h1, ?_⟩
  rcases h2 with h2 | ⟨g, cap, cur, a, b, c, d⟩
  · exact .inl h2
  · exact .inr ⟨g, cap, cur, a, b, (heap_setCell_other w ⟨k, j, none⟩ g x (show g ≠ k by omega)).trans c, d⟩
theorem Tryz.infoCont : (Tryz.prog.info? 119).map (fun i => (i.zero, i.size, i.bytes)) = some (some (.agg #[.int .i64 0, .int .i64 0, .string ByteArray.empty, .int .i64 0, .int .i64 0]), 5, 48) := by kernel_rfl

end Go.Proofs.YtkpmocbfedgfhaaGreat

/-
  Lists of applications, by their heads that own their memory; the library's Clone of them (mkown.py wrote this); walks over the dump.
-/
namespace Go.Proofs.YtkpmocbfedgfhaaGreat
open Go.RowKit
set_option linter.unusedVariables false
abbrev pcell (q : AV) : List Value := [.int .i64 q.id, .string (bs q.queue), .slice q.ao q.len q.cap]
def pcells : List AV → List Value
  | [] => []
  | q :: t => pcell q ++ pcells t
theorem pcells_app (a : List AV) (q : AV) : pcells (a ++ [q]) = pcells a ++ pcell q := by
  induction a with
  | nil => rfl
  | cons x t ih => rw [List.cons_append, pcells, pcells, ih, List.append_assoc]
theorem pcells_len : ∀ l : List AV, (pcells l).length = l.length * 3
  | [] => rfl
  | q :: t => by rw [pcells, List.length_append, pcells_len t]; simp; omega
theorem pcells_at : ∀ (l : List AV) (i : Nat) (h : i < l.length), (pcells l)[i * 3]? = some (.int .i64 l[i].id) ∧ (pcells l)[i * 3 + 1]? = some (.string (bs l[i].queue)) ∧ (pcells l)[i * 3 + 2]? = some (.slice l[i].ao l[i].len l[i].cap)
  | q :: t, 0, _ => ⟨rfl, rfl, rfl⟩
  | q :: t, i + 1, h => by
    have e := pcells_at t i (by simpa using h)
    have k : ∀ j, (pcells (q :: t))[(i + 1) * 3 + j]? = (pcells t)[i * 3 + j]? := fun j => by
      rw [pcells, show (i + 1) * 3 + j = (pcell q).length + (i * 3 + j) by simp; omega, List.getElem?_append_right (by omega)]
      congr 1
      omega
    have k0 := k 0
    simp only [Nat.add_zero] at k0
    rw [k0, k 1, k 2]
    simpa using e
theorem pcells_row {w : World} {b off len : Nat} {l : List AV} (h : AVRow w (some ⟨b, off, none⟩) len l) : ∀ j u, (pcells l)[j]? = some u → w.cell? ⟨b, off + j, none⟩ = some u := fun j u hj => by
  have hjl : j < l.length * 3 := by rw [← pcells_len]; exact (List.getElem?_eq_some_iff.1 hj).1
  obtain ⟨h1, h2⟩ := h
  rcases h2 with h2 | ⟨b', off', e, h4⟩
  · omega
  · cases e
    have hi : j / 3 < l.length := by omega
    obtain ⟨a0, a1, a2⟩ := pcells_at l (j / 3) hi
    obtain ⟨c0, c1, c2⟩ := h4 (j / 3) hi
    rcases (show j % 3 = 0 ∨ j % 3 = 1 ∨ j % 3 = 2 by omega) with e | e | e
    · rw [show j = j / 3 * 3 by omega] at hj ⊢; rw [a0] at hj; cases hj; exact c0
    · rw [show j = j / 3 * 3 + 1 by omega] at hj ⊢; rw [a1] at hj; cases hj; rw [← Nat.add_assoc]; exact c1
    · rw [show j = j / 3 * 3 + 2 by omega] at hj ⊢; rw [a2] at hj; cases hj; rw [← Nat.add_assoc]; exact c2
theorem pcells_one : ∀ (l : List AV), ∀ u ∈ pcells l, u.oneCell' = true
  | [], u, h => by simp [pcells] at h
  | q :: t, u, h => by
    rw [pcells, List.mem_append] at h
    rcases h with h | h
    · simp at h
      rcases h with rfl | rfl | rfl <;> rfl
    · exact pcells_one t u h
/-- v is a list of these applications, by their heads, in memory of its own from block B on -/
def POwn (B : Nat) (w : World) (v : Value) (l : List AV) : Prop := w.ownsRow B 44 3 v l.length (pcells l)
theorem pown_nil (B : Nat) (w : World) : POwn B w (.slice none 0 0) [] := World.ownsRow_nil _ _ _ _
theorem pown_empty (w : World) : w.alloc (.cells #[] 44) |>.ownsRow w.heap.size 44 3 (.slice (some ⟨w.heap.size, 0, none⟩) 0 0) 0 [] :=
  ⟨rfl, .inr ⟨w.heap.size, 0, #[], rfl, Nat.le_refl _, by show (w.heap.push _)[w.heap.size]? = _; simp, Nat.le_refl _, by unfold maxLen; omega, rfl, rfl⟩⟩
theorem pown_below {w w' : World} {B : Nat} {v : Value} {l : List AV} (h : POwn B w v l) (hb : Below w.heap.size w w') : POwn B w' v l :=
  World.ownsRow.kept h (grownBy_below (grownBy_refl w none) hb) (by by_cases e : v.ownBlock = none; exact .inl e; exact .inr e)
theorem pown_base {w : World} {B B' : Nat} {v : Value} {l : List AV} (h : POwn B w v l) (hb : B' ≤ B) : POwn B' w v l := by
  obtain ⟨h1, h2⟩ := h
  refine ⟨h1, ?_⟩
  rcases h2 with h2 | ⟨g, cap, cur, a, b, c⟩
  · exact .inl h2
  · exact .inr ⟨g, cap, cur, a, Nat.le_trans hb b, c⟩
theorem pown_row {w : World} {B : Nat} {v : Value} {l : List AV} (h : POwn B w v l) : ∃ ao cap, v = .slice ao l.length cap ∧ AVRow w ao l.length l ∧ l.length ≤ cap ∧ (l ≠ [] → ∃ g cur, ao = some ⟨g, 0, none⟩ ∧ B ≤ g ∧ w.heap[g]? = some (.cells cur 44 (0, 0)) ∧ cur.size = cap * 3) := by
  rcases h.2 with ⟨rfl, h0⟩ | ⟨g, cap, cur, rfl, h1, h2, h3, h4, h5, h6⟩
  · exact ⟨none, 0, by rw [h0], ⟨rfl, .inl h0⟩, by omega, fun hn => absurd (List.length_eq_zero_iff.1 h0) hn⟩
  · refine ⟨some ⟨g, 0, none⟩, cap, rfl, ⟨rfl, .inr ⟨g, 0, rfl, fun i hi => ?_⟩⟩, h3, fun _ => ⟨g, cur, rfl, h1, h2, h5⟩⟩
    obtain ⟨a, b, c⟩ := pcells_at l i hi
    have k : ∀ j (v : Value), j < l.length * 3 → (pcells l)[j]? = some v → w.cell? ⟨g, j, none⟩ = some v := fun j v hj hv => by
      rw [← h6, List.getElem?_take_of_lt hj] at hv
      simp [World.cell?, h2]
      simpa using hv
    unfold AVAt
    rw [Nat.zero_add]
    exact ⟨k _ _ (by omega) a, k _ _ (by omega) b, k _ _ (by omega) c⟩
theorem pown_other {w : World} {B : Nat} {v : Value} {l : List AV} (h : POwn B w v l) (k j : Nat) (x : Value) (hk : k < B) : POwn B (w.setCell ⟨k, j, none⟩ x) v l := by
  obtain ⟨h1, h2⟩ := h
  refine ⟨h1, ?_⟩
  rcases h2 with h2 | ⟨g, cap, cur, a, b, c, d⟩
  · exact .inl h2
  · exact .inr ⟨g, cap, cur, a, b, (heap_setCell_other w ⟨k, j, none⟩ g x (show g ≠ k by omega)).trans c, d⟩
theorem Tryz.infoApp : (Tryz.prog.info? 44).map (fun i => (i.zero, i.size, i.bytes)) = some (some (.agg #[.int .i64 0, .string ByteArray.empty, .slice none 0 0]), 3, 48) := by kernel_rfl

end Go.Proofs.YtkpmocbfedgfhaaGreat
