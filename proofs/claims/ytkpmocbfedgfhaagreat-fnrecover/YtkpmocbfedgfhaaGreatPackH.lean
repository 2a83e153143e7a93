/-
  Several texts of this claim in one: OkM, StrS, DecM, MarkT, CelV, Cel, MarkFM, MarkFC, MarkAM, MarkA, MarkP, MarkH, HeldQ, MarkO, CopyN (pack.py put them together); each says in its own remark what is proved.
-/
import Derived.Test.YtkpmocbfedgfhaaGreatPackA
import Derived.Test.YtkpmocbfedgfhaaGreatPackF
import Derived.Test.YtkpmocbfedgfhaaGreatOkI
import Derived.Lib.ItoaLen
import Derived.Laws.IdiomStrings
import Derived.BigQuiet
import Derived.Deep.QuietTactic
import Derived.Deep.RegionWith
import Derived.Test.YtkpmocbfedgfhaaGreatStAll
import Derived.Deep.RegionHeld3
import Derived.Test.YtkpmocbfedgfhaaGreatPackE
import Derived.Laws.CopyOwn
import Derived.Deep.RegionLaw
import Derived.Deep.AppendLies
/-
  A state is right: that the program's way and the model's way to ask are one; plain words.
-/
namespace Go.Proofs.YtkpmocbfedgfhaaGreat
open Go.RowKit
set_option linter.unusedVariables false
/-- one amount behind the other taken away from what there is -/
def subsOk : Int → Int → List (Int × Int) → Bool
  | _, _, [] => true
  | x, y, r :: t => bothOk (-1) x y r.1 r.2 && subsOk (x + -1 * r.1) (y + -1 * r.2) t
theorem okSum : ∀ (l : List (Int × Int)) (x y : Int), resOk x y = true → resOk (sumFrom l x y).1 (sumFrom l x y).2.1 = true
  | [], x, y, h => h
  | r :: t, x, y, h => by
    rw [sumFrom]
    by_cases hb : bothOk 1 x y r.1 r.2 = true
    · rw [if_pos hb]
      refine okSum t _ _ ?_
      simp only [bothOk, Bool.and_eq_true] at hb
      exact hb.2
    · rw [if_neg hb]; decide
theorem sumFrom_each : ∀ (l : List (Int × Int)) (x y : Int), (sumFrom l x y).2.2 = true → ∀ r ∈ l, resOk r.1 r.2 = true
  | [], x, y, _, r, h => by simp at h
  | q :: t, x, y, h, r, hr => by
    rw [sumFrom] at h
    by_cases hb : bothOk 1 x y q.1 q.2 = true
    · rw [if_pos hb] at h
      rcases List.mem_cons.1 hr with rfl | hr
      · simp only [bothOk, Bool.and_eq_true] at hb; exact hb.1.2
      · exact sumFrom_each t _ _ h r hr
    · rw [if_neg hb] at h; cases h
theorem sumFrom_ge : ∀ (l : List (Int × Int)) (x y : Int), (sumFrom l x y).2.2 = true → x ≤ (sumFrom l x y).1 ∧ y ≤ (sumFrom l x y).2.1
  | [], x, y, _ => ⟨Int.le_refl _, Int.le_refl _⟩
  | r :: t, x, y, h => by
    rw [sumFrom] at h ⊢
    by_cases hb : bothOk 1 x y r.1 r.2 = true
    · rw [if_pos hb] at h ⊢
      have := sumFrom_ge t _ _ h
      have hr : resOk r.1 r.2 = true := by simp only [bothOk, Bool.and_eq_true] at hb; exact hb.1.2
      have := resOk_bd hr
      omega
    · rw [if_neg hb] at h; cases h
theorem subs_sum {X Y : Int} (hX : resOk X Y = true) : ∀ (l : List (Int × Int)) (x y : Int), resOk x y = true → x ≤ X → y ≤ Y → (subsOk (X + -1 * x) (Y + -1 * y) l = true ↔ (sumFrom l x y).2.2 = true ∧ (sumFrom l x y).1 ≤ X ∧ (sumFrom l x y).2.1 ≤ Y)
  | [], x, y, h, h1, h2 => by simp [subsOk, sumFrom, h1, h2]
  | r :: t, x, y, h, h1, h2 => by
    have bX := resOk_bd hX
    have bx := resOk_bd h
    rw [subsOk, sumFrom, Bool.and_eq_true]
    by_cases hs : bothOk (-1) (X + -1 * x) (Y + -1 * y) r.1 r.2 = true
    · have hs' := hs
      simp only [bothOk, Bool.and_eq_true] at hs'
      have br := resOk_bd hs'.1.2
      have bs' := resOk_bd hs'.2
      have hr2 : resOk (x + 1 * r.1) (y + 1 * r.2) = true := by simp only [resOk, inB, Bool.and_eq_true, decide_eq_true_eq]; omega
      have hp : bothOk 1 x y r.1 r.2 = true := by simp only [bothOk, Bool.and_eq_true]; exact ⟨⟨h, hs'.1.2⟩, hr2⟩
      rw [if_pos hp]
      have ih := subs_sum hX t (x + 1 * r.1) (y + 1 * r.2) hr2 (by omega) (by omega)
      rw [← ih]
      have e1 : X + -1 * (x + 1 * r.1) = X + -1 * x + -1 * r.1 := by omega
      have e2 : Y + -1 * (y + 1 * r.2) = Y + -1 * y + -1 * r.2 := by omega
      rw [e1, e2]
      exact ⟨fun hh => hh.2, fun hh => ⟨hs, hh⟩⟩
    · refine ⟨fun hh => absurd hh.1 hs, fun ⟨g1, g2, g3⟩ => absurd ?_ hs⟩
      by_cases hp : bothOk 1 x y r.1 r.2 = true
      · rw [if_pos hp] at g1 g2 g3
        have ge := sumFrom_ge t _ _ g1
        have hp' := hp
        simp only [bothOk, Bool.and_eq_true] at hp'
        have br := resOk_bd hp'.1.2
        simp only [bothOk, Bool.and_eq_true]
        refine ⟨⟨?_, hp'.1.2⟩, ?_⟩ <;> simp only [resOk, inB, Bool.and_eq_true, decide_eq_true_eq] <;> omega
      · rw [if_neg hp] at g1; cases g1
theorem hold_subs {cs : List Con} {m : Mac} (hr : resOk m.mem m.cpu = true) : holdM cs m = true ↔ subsOk m.mem m.cpu (usedL (fun q => decide (q.node = m.name)) cs) = true := by
  have h := subs_sum hr (usedL (fun q => decide (q.node = m.name)) cs) 0 0 (by decide) (resOk_bd hr).1 (resOk_bd hr).2.2.1
  rw [show m.mem + -1 * 0 = m.mem by omega, show m.cpu + -1 * 0 = m.cpu by omega] at h
  rw [h]
  simp only [holdM, hr, Bool.true_and, Bool.and_eq_true, sumR, within]
  refine ⟨fun ⟨a, b⟩ => ⟨a, of_decide_eq_true b.1.2, of_decide_eq_true b.2⟩, fun ⟨a, b, c⟩ => ⟨a, ⟨⟨⟨okSum _ 0 0 (by decide), trivial⟩, decide_eq_true b⟩, decide_eq_true c⟩⟩⟩

theorem leT_lt {a b : List UInt8} (h : leT a b = false) : Op.bytesLess (bs b).toList (bs a).toList = true := by
  simp only [leT, Bool.or_eq_false_iff] at h
  exact bl_tri _ _ h.1 (fun e => by rw [e] at h; simp at h)
theorem machs_above {ck : Int} : ∀ (l : List Mac) (last : List UInt8), machsFrom ck last l = true → ∀ m ∈ l, Op.bytesLess (bs last).toList (bs m.name).toList = true
  | [], _, _, m, h => by simp at h
  | q :: t, last, h, m, hm => by
    simp only [machsFrom, Bool.and_eq_true, Bool.not_eq_true'] at h
    have h1 := leT_lt h.1
    rcases List.mem_cons.1 hm with rfl | hm
    · exact h1
    · exact bl_trans _ _ _ h1 (machs_above t q.name h.2.2.2.2 m hm)
theorem machs_find {ck : Int} : ∀ (l : List Mac) (last : List UInt8), machsFrom ck last l = true → ∀ m ∈ l, findM m.name l = some m
  | [], _, _, m, h => by simp at h
  | q :: t, last, h, m, hm => by
    simp only [machsFrom, Bool.and_eq_true, Bool.not_eq_true'] at h
    rcases List.mem_cons.1 hm with rfl | hm
    · simp [findM]
    · have hab := machs_above t q.name h.2.2.2.2 m hm
      have hne : ¬ q.name = m.name := fun e => by rw [e, bl_irr] at hab; cases hab
      have := machs_find t q.name h.2.2.2.2 m hm
      simp only [findM] at this ⊢
      rw [List.find?_cons_of_neg (by simpa using hne)]
      exact this
theorem machsS_iff {ck : Int} {cs : List Con} : ∀ (l : List Mac) (last : List UInt8), machsS ck cs last l = true ↔ machsFrom ck last l = true ∧ ∀ m ∈ l, holdM cs m = true
  | [], _ => by simp [machsS, machsFrom]
  | q :: t, last => by
    simp only [machsS, machsFrom, Bool.and_eq_true, machsS_iff t q.name, List.mem_cons, forall_eq_or_imp]
    exact ⟨fun ⟨a, b, c, d, e, f, g⟩ => ⟨⟨a, b, c, d, f⟩, e, g⟩, fun ⟨⟨a, b, c, d, f⟩, e, g⟩ => ⟨a, b, c, d, e, f, g⟩⟩
theorem contsS_congr {apps : List Appl} {l l' : List Mac} (h : ∀ nm, (findM nm l').isSome = (findM nm l).isSome) : ∀ (cs : List Con) (last : Int), contsS apps l' last cs = contsS apps l last cs
  | [], _ => rfl
  | c :: t, last => by rw [contsS, contsS, h, contsS_congr h t]
theorem used_cons {nm : List UInt8} {c : Con} {t : List Con} : usedL (fun q => decide (q.node = nm)) (c :: t) = if c.node = nm then (c.mem, c.cpu) :: usedL (fun q => decide (q.node = nm)) t else usedL (fun q => decide (q.node = nm)) t := by
  by_cases h : c.node = nm
  · simp [usedL, h]
  · simp [usedL, h]
theorem conts_iff {apps : List Appl} : ∀ (cs : List Con) (l : List Mac) (last : Int), contsFrom apps l last cs = true ↔ contsS apps l last cs = true ∧ ∀ nm m, findM nm l = some m → subsOk m.mem m.cpu (usedL (fun q => decide (q.node = nm)) cs) = true
  | [], l, last => by simp [contsFrom, contsS, usedL, subsOk]
  | c :: t, l, last => by
    cases hf : findM c.node l with
    | none => simp [contsFrom, contsS, hf]
    | some m =>
      have hn := findM_name hf
      have ih := conts_iff (apps := apps) t (⟨m.name, m.mem + -1 * c.mem, m.cpu + -1 * c.cpu, m.seen⟩ :: l) c.id
      have hfind : ∀ nm, findM nm (⟨m.name, m.mem + -1 * c.mem, m.cpu + -1 * c.cpu, m.seen⟩ :: l) = if c.node = nm then some ⟨m.name, m.mem + -1 * c.mem, m.cpu + -1 * c.cpu, m.seen⟩ else findM nm l := fun nm => by
        by_cases e : c.node = nm
        · rw [if_pos e]; simp [findM, hn, e]
        · rw [if_neg e]; simp [findM, hn, e]
      have hsome : ∀ nm, (findM nm (⟨m.name, m.mem + -1 * c.mem, m.cpu + -1 * c.cpu, m.seen⟩ :: l)).isSome = (findM nm l).isSome := fun nm => by
        rw [hfind]
        by_cases e : c.node = nm
        · rw [if_pos e, ← e, hf]
          rfl
        · rw [if_neg e]
      rw [contsS_congr hsome] at ih
      simp only [contsFrom, contsS, hf, Option.isSome_some, Option.getD_some, Bool.true_and, Bool.and_eq_true, ih]
      constructor
      · rintro ⟨a, b, c1, d, e, f, g⟩
        refine ⟨⟨a, b, d, c1, f⟩, fun nm m2 hm2 => ?_⟩
        rw [used_cons]
        by_cases en : c.node = nm
        · rw [if_pos en]
          rw [← en, hf] at hm2
          cases hm2
          rw [subsOk, Bool.and_eq_true]
          exact ⟨e, g nm ⟨m.name, m.mem + -1 * c.mem, m.cpu + -1 * c.cpu, m.seen⟩ (by rw [hfind, if_pos en])⟩
        · rw [if_neg en]
          exact g nm m2 (by rw [hfind, if_neg en]; exact hm2)
      · rintro ⟨⟨a, b, d, c1, f⟩, g⟩
        have g0 := g c.node m hf
        rw [used_cons, if_pos rfl, subsOk, Bool.and_eq_true] at g0
        refine ⟨a, b, c1, d, g0.1, f, fun nm m2 hm2 => ?_⟩
        rw [hfind] at hm2
        by_cases en : c.node = nm
        · rw [if_pos en] at hm2
          cases hm2
          rw [← en]
          exact g0.2
        · rw [if_neg en] at hm2
          have := g nm m2 hm2
          rwa [used_cons, if_neg en] at this
theorem state_same (s : St) : stateOkI s = stateOkS s := by
  rw [Bool.eq_iff_iff]
  simp only [stateOkI, stateOkS, numsOk, machsOkV, machsOkS, contsOkV, Bool.and_eq_true, conts_iff, machsS_iff]
  have key : machsFrom s.clock [] s.ms = true → (sumR (capsOf s.ms)).2.2 = true → ((∀ nm m, findM nm s.ms = some m → subsOk m.mem m.cpu (usedL (fun q => decide (q.node = nm)) s.cs) = true) ↔ ∀ m ∈ s.ms, holdM s.cs m = true) := fun h1 h2 => by
    have hr : ∀ m ∈ s.ms, resOk m.mem m.cpu = true := fun m hm => sumFrom_each _ 0 0 h2 (m.mem, m.cpu) (by simp only [capsOf, List.mem_map]; exact ⟨m, hm, rfl⟩)
    constructor
    · intro h m hm
      exact (hold_subs (hr m hm)).2 (h m.name m (machs_find _ _ h1 m hm))
    · intro h nm m hf
      have hm : m ∈ s.ms := List.mem_of_find?_eq_some hf
      have hn := findM_name hf
      have := (hold_subs (hr m hm)).1 (h m hm)
      rwa [hn] at this
  constructor
  · rintro ⟨a, ⟨b1, b2, b3, b4⟩, c, ⟨d1, d2, d3⟩, e1, e2, e3⟩
    exact ⟨a, b1, b2, b3, b4, c, ⟨⟨d2, (key d2 d3).1 e3⟩, d3, d1⟩, e1, e2⟩
  · rintro ⟨a, b1, b2, b3, b4, c, ⟨⟨d2, hh⟩, d3, d1⟩, e1, e2⟩
    exact ⟨a, ⟨b1, b2, b3, b4⟩, c, ⟨d1, d2, d3⟩, e1, e2, (key d2 d3).2 hh⟩
def stateOkV (s : St) : Bool := stateOkS s
theorem specStateOk_any (x : Sls) (s : St) (w : World) (h : SRow w x s) (hf : FitSt s) :
    Calls Tryz.prog 50 #[sv x s] w fun e w' => e = .returned (.bool (stateOkV s)) ∧ Below w.heap.size w w' := stateOkS_any x s w h hf
theorem implStateOk_any (x : Sls) (s : St) (w : World) (h : SRow w x s) (hf : FitSt s) (hc : x.ql ≤ x.qc) (hw : WfSt s) :
    Calls Tryz.prog 11 #[sv x s] w fun e w' => e = .returned (.bool (stateOkV s)) ∧ Below w.heap.size w w' := by
  have := stateOkI_any x s w h hf hc hw
  rwa [state_same] at this
end Go.Proofs.YtkpmocbfedgfhaaGreat

/-
  Slices of texts that a call has made.
-/
namespace Go.Proofs.YtkpmocbfedgfhaaGreat
open Go.RowKit
set_option linter.unusedVariables false
/-- block g holds, from its head on, the texts xs, with room for cap -/
def SS (w : World) (g cap : Nat) (xs : List ByteArray) : Prop := w.ownsRow g 9 1 (.slice (some ⟨g, 0, none⟩) xs.length cap) xs.length (xs.map Value.string)
theorem SS.cell {w : World} {g cap : Nat} {xs : List ByteArray} (h : SS w g cap xs) (j : Nat) (hj : j < xs.length) : w.cell? ⟨g, j, none⟩ = some (.string xs[j]) := by
  have := World.ownsRow.cellAt h j (by omega)
  rw [this]; simp [hj]
theorem SS.frozen {w : World} {g cap : Nat} {xs : List ByteArray} (h : SS w g cap xs) (j : Nat) : w.frozen? ⟨g, j, none⟩ = false := World.ownsRow.frozenAt h j
theorem SS.block {w : World} {g cap : Nat} {xs : List ByteArray} (h : SS w g cap xs) : ∃ cur, w.heap[g]? = some (.cells cur 9 (0, 0)) ∧ xs.length ≤ cap ∧ cap ≤ maxLen ∧ cur.size = cap ∧ cur.toList.take xs.length = xs.map Value.string := by
  rcases h.2 with ⟨h1, _⟩ | ⟨g', cap', cur, h1, _, h2, h3, h4, h5, h6⟩
  · simp at h1
  · simp only [Value.slice.injEq, Option.some.injEq, Addr.mk.injEq, and_true, true_and] at h1
    obtain ⟨rfl, rfl⟩ := h1
    exact ⟨cur, h2, h3, h4, by simpa using h5, by simpa using h6⟩
theorem SS.mk {w : World} {g cap : Nat} {xs : List ByteArray} {cur : Array Value} (h : w.heap[g]? = some (.cells cur 9 (0, 0))) (h1 : xs.length ≤ cap) (h2 : cap ≤ maxLen) (h3 : cur.size = cap) (h4 : cur.toList.take xs.length = xs.map Value.string) : SS w g cap xs :=
  ⟨by simp, .inr ⟨g, cap, cur, rfl, Nat.le_refl _, h, h1, h2, by simpa using h3, by simpa using h4⟩⟩
theorem SS.lt {w : World} {g cap : Nat} {xs : List ByteArray} (h : SS w g cap xs) : g < w.heap.size := by
  obtain ⟨cur, h1, _⟩ := h.block
  exact lt_of_block h1
theorem SS.same {w w' : World} {g cap : Nat} {xs : List ByteArray} (h : SS w g cap xs) (hg : w'.heap[g]? = w.heap[g]?) : SS w' g cap xs := by
  obtain ⟨cur, h1, h2, h3, h4, h5⟩ := h.block
  exact SS.mk (hg.trans h1) h2 h3 h4 h5
theorem SS.below {w w' : World} {B g cap : Nat} {xs : List ByteArray} (h : SS w g cap xs) (hb : Below B w w') (hg : g < B) : SS w' g cap xs := h.same (hb.block g hg)
theorem SS.set {w : World} {g cap : Nat} {xs : List ByteArray} (h : SS w g cap xs) (j : Nat) (hj : j < xs.length) (x : ByteArray) : SS (w.setCell ⟨g, j, none⟩ (.string x)) g cap (xs.set j x) := by
  obtain ⟨cur, h1, h2, h3, h4, h5⟩ := h.block
  refine SS.mk (heap_setCell_same w g j cur _ _ h1) (by simpa using h2) h3 (by simpa using h4) ?_
  rw [List.length_set, Array.toList_setIfInBounds, List.take_set, h5, List.map_set]

end Go.Proofs.YtkpmocbfedgfhaaGreat

/-
  Decimal digits, one by one.
-/
namespace Go.Proofs.YtkpmocbfedgfhaaGreat
open Go.RowKit
/-- the digits of u, none for 0 -/
def dgs (u : Nat) : List UInt8 := if u = 0 then [] else Lib.decDigits u
theorem dgs_zero : dgs 0 = [] := rfl
theorem dgs_pos {u : Nat} (h : u ≠ 0) : dgs u = Lib.decDigits u := by rw [dgs, if_neg h]
theorem dgs_step {u : Nat} (h : u ≠ 0) : dgs u = dgs (u / 10) ++ [UInt8.ofNat (48 + u % 10)] := by
  rw [dgs_pos h, Lib.decDigits]
  by_cases h10 : u < 10
  · rw [dif_pos h10]
    have e : u / 10 = 0 := by omega
    rw [e, dgs_zero, Nat.mod_eq_of_lt h10]; rfl
  · rw [dif_neg h10, dgs_pos (by omega)]
/-- one digit cut out of the ten -/
theorem ten_cut : ∀ d : Nat, d < 10 → (ByteArray.mk #[48, 49, 50, 51, 52, 53, 54, 55, 56, 57]).extract d (d + 1) = ⟨#[UInt8.ofNat (48 + d)]⟩ := by
  intro d h
  match d, h with
  | 0, _ => rfl
  | 1, _ => rfl
  | 2, _ => rfl
  | 3, _ => rfl
  | 4, _ => rfl
  | 5, _ => rfl
  | 6, _ => rfl
  | 7, _ => rfl
  | 8, _ => rfl
  | 9, _ => rfl
  | d + 10, h => exact absurd h (by omega)
end Go.Proofs.YtkpmocbfedgfhaaGreat

/-
  The laws' own markText, and marks in a row.
-/
namespace Go.Proofs.YtkpmocbfedgfhaaGreat
open Go.RowKit
set_option linter.unusedVariables false
/-- the mark of the number N -/
def mk (N : Nat) : ByteArray := bs (109 :: dgs N)

/-- the marks from k on: n of them -/
def marks (k : Nat) : Nat → List ByteArray
  | 0 => []
  | n + 1 => mk k :: marks (k + 1) n
/-- the first j texts marked -/
def marked (k : Nat) (xs : List ByteArray) (j : Nat) : List ByteArray := (marks k xs.length).take j ++ xs.drop j
end Go.Proofs.YtkpmocbfedgfhaaGreat

/-
  Rows of cells that may be written; what a call that marks them leaves alone.
-/
namespace Go.Proofs.YtkpmocbfedgfhaaGreat
open Go.RowKit
set_option linter.unusedVariables false
/-- block g is a row of N cells of type t that may be written -/
def Cel (w : World) (t : TypeId) (g N : Nat) : Prop := ∃ arr : Array Value, w.heap[g]? = some (.cells arr t (0, 0)) ∧ arr.size = N
theorem Cel.lt {w : World} {t : TypeId} {g N : Nat} (h : Cel w t g N) : g < w.heap.size := let ⟨_, h, _⟩ := h; lt_of_block h
theorem Cel.of_block {w w' : World} {t : TypeId} {g N : Nat} (h : Cel w t g N) (e : w'.heap[g]? = w.heap[g]?) : Cel w' t g N := by
  obtain ⟨arr, h1, h2⟩ := h
  exact ⟨arr, e.trans h1, h2⟩
theorem Cel.below {w w' : World} {t : TypeId} {g N : Nat} (h : Cel w t g N) (hb : Below w.heap.size w w') : Cel w' t g N := h.of_block (hb.block g h.lt)
theorem Cel.set {w : World} {t : TypeId} {g N : Nat} (h : Cel w t g N) (b j : Nat) (v : Value) : Cel (w.setCell ⟨b, j, none⟩ v) t g N := by
  by_cases e : g = b
  · subst e
    obtain ⟨arr, h1, h2⟩ := h
    exact ⟨_, heap_setCell_same w g j _ _ v h1, by simp [h2]⟩
  · exact h.of_block (heap_setCell_other w ⟨b, j, none⟩ g v e)
theorem Cel.cell {w : World} {t : TypeId} {g N : Nat} (h : Cel w t g N) {j : Nat} (hj : j < N) : ∃ v, w.cell? ⟨g, j, none⟩ = some v := by
  obtain ⟨arr, h1, h2⟩ := h
  exact ⟨arr[j]'(by omega), by simp [World.cell?, h1, Array.getElem?_eq_getElem (show j < arr.size by omega)]⟩
theorem Cel.frozen {w : World} {t : TypeId} {g N : Nat} (h : Cel w t g N) (j : Nat) : w.frozen? ⟨g, j, none⟩ = false := by
  obtain ⟨arr, h1, h2⟩ := h
  simp [World.frozen?, h1]

/-- of all that was there nothing has turned but cells of the blocks from B on to E -/
structure Mkd (B E : Nat) (w w' : World) : Prop where
  os : w'.os = w.os
  tape : w'.tape = w.tape
  output : w'.output = w.output
  size : w.heap.size ≤ w'.heap.size
  block : ∀ k, k < w.heap.size → (k < B ∨ E ≤ k) → w'.heap[k]? = w.heap[k]?
  cel : ∀ t g N, Cel w t g N → Cel w' t g N
theorem Mkd.refl (B E : Nat) (w : World) : Mkd B E w w := ⟨rfl, rfl, rfl, Nat.le_refl _, fun _ _ _ => rfl, fun _ _ _ h => h⟩
theorem Mkd.trans {B E : Nat} {a b c : World} (h : Mkd B E a b) (k : Mkd B E b c) : Mkd B E a c :=
  ⟨k.os.trans h.os, k.tape.trans h.tape, k.output.trans h.output, Nat.le_trans h.size k.size, fun i hi ho => (k.block i (Nat.lt_of_lt_of_le hi h.size) ho).trans (h.block i hi ho), fun t g N x => k.cel t g N (h.cel t g N x)⟩
theorem Mkd.mono {B E B' E' : Nat} {a b : World} (h : Mkd B E a b) (h1 : B' ≤ B) (h2 : E ≤ E') : Mkd B' E' a b :=
  ⟨h.os, h.tape, h.output, h.size, fun i hi ho => h.block i hi (by omega), h.cel⟩
theorem Mkd.of_below {B E : Nat} {w w' : World} (hb : Below w.heap.size w w') : Mkd B E w w' := ⟨hb.os, hb.tape, hb.output, hb.size, fun i hi _ => hb.block i hi, fun t g N x => x.below hb⟩
theorem Mkd.on {B E : Nat} {a w w' : World} (h : Mkd B E a w) (hb : Below w.heap.size w w') : Mkd B E a w' := h.trans (.of_below hb)
theorem Mkd.sc {B E : Nat} {a w : World} (h : Mkd B E a w) (g j : Nat) (v : Value) (h1 : B ≤ g) (h2 : g < E) : Mkd B E a (w.setCell ⟨g, j, none⟩ v) :=
  h.trans ⟨rfl, rfl, rfl, by simp [World.setCell], fun k _ ho => Below.heap_setCell _ _ _ _ (by show k ≠ g; omega), fun t g' N x => x.set g j v⟩
/-- below B all stands -/
theorem Mkd.below {B E : Nat} {a w : World} (h : Mkd B E a w) (hB : B ≤ a.heap.size) : Below B a w := ⟨h.os, h.tape, h.output, h.size, fun k hk => h.block k (by omega) (.inl hk)⟩
theorem Mkd.blk {B E g : Nat} {a w : World} {arr : Array Value} {t : TypeId} (h : Mkd B E a w) (hb : Blk a g arr t) (ho : g < B ∨ E ≤ g) : Blk w g arr t := (h.block g hb.lt ho).trans hb
end Go.Proofs.YtkpmocbfedgfhaaGreat

/-
  Rows of cells that may be written, of each kind.
-/
namespace Go.Proofs.YtkpmocbfedgfhaaGreat
open Go.RowKit
set_option linter.unusedVariables false
theorem QBlk.cel {w : World} {t : TypeId} {g n k : Nat} {l : List Q} (h : QBlk w t g n k l) : Cel w t g (n * 4) := let ⟨arr, h1, h2, _⟩ := h; ⟨arr, h1, h2⟩
theorem AskBlk.cel {w : World} {t : TypeId} {g n k : Nat} {l : List Ask} (h : AskBlk w t g n k l) : Cel w t g (n * 5) := let ⟨arr, h1, h2, _⟩ := h; ⟨arr, h1, h2⟩
theorem MacBlk.cel {w : World} {t : TypeId} {g n k : Nat} {l : List Mac} (h : MacBlk w t g n k l) : Cel w t g (n * 4) := let ⟨arr, h1, h2, _⟩ := h; ⟨arr, h1, h2⟩
theorem ConBlk.cel {w : World} {t : TypeId} {g n k : Nat} {l : List Con} (h : ConBlk w t g n k l) : Cel w t g (n * 5) := let ⟨arr, h1, h2, _⟩ := h; ⟨arr, h1, h2⟩
theorem ApplBlk.cel {w : World} {t : TypeId} {g n k : Nat} {l : List Appl} (h : ApplBlk w t g n k l) : Cel w t g (n * 3) := let ⟨arr, h1, h2, _⟩ := h; ⟨arr, h1, h2⟩
end Go.Proofs.YtkpmocbfedgfhaaGreat

/-
  The laws' own markMachineS, from any number on, and heldMachineS: what is marked in a row, and found again (gmf.py wrote this); walks over the dump.
-/
namespace Go.Proofs.YtkpmocbfedgfhaaGreat
open Go.RowKit
set_option linter.unusedVariables false
set_option linter.unusedSimpArgs false
def markM (k j : Nat) : Mac := ⟨109 :: dgs (k + 4 * j), (k : Int) + 4 * (j : Int) + 1, (k : Int) + 4 * (j : Int) + 1 + 1, (k : Int) + 4 * (j : Int) + 1 + 1 + 1⟩
def marksM (k n : Nat) : List Mac := (List.range n).map (markM k)
theorem MacBlk.tail {w : World} {t : TypeId} {g n k : Nat} {l : List Mac} (h : MacBlk w t g n k l) {p : Nat} (hp : k * 4 ≤ p) (v : Value) : MacBlk (w.setCell ⟨g, p, none⟩ v) t g n k l := by
  obtain ⟨arr, h1, h2, h3⟩ := h
  refine ⟨_, heap_setCell_same w g p _ _ v h1, by simp [h2], fun i hi hik => ?_⟩
  obtain ⟨a, b, c, d⟩ := h3 i hi hik
  refine ⟨?_, ?_, ?_, ?_⟩
  · rw [← a, Array.getElem?_setIfInBounds, if_neg (by omega)]
  · rw [← b, Array.getElem?_setIfInBounds, if_neg (by omega)]
  · rw [← c, Array.getElem?_setIfInBounds, if_neg (by omega)]
  · rw [← d, Array.getElem?_setIfInBounds, if_neg (by omega)]
theorem MacBlk.next {w : World} {t : TypeId} {g n k : Nat} {l : List Mac} (h : MacBlk w t g n k l) (c : ∀ hk : k < l.length, MacAt w g (k * 4) l[k]) : MacBlk w t g n (k + 1) l := by
  obtain ⟨arr, h1, h2, h3⟩ := h
  refine ⟨arr, h1, h2, fun i hi hik => ?_⟩
  by_cases e : i = k
  · subst e
    obtain ⟨c0, c1, c2, c3⟩ := c hi
    simp [World.cell?, h1] at c0 c1 c2 c3
    exact ⟨c0, c1, c2, c3⟩
  · exact h3 i hi (by omega)
/-- one stands at a place; of w0 nothing has turned -/
def MacOne (w0 : World) (b p : Nat) (q : Mac) (w : World) : Prop := MacAt w b p q ∧ Below w0.heap.size w0 w
theorem MacOne.call {w0 w w' : World} {b p : Nat} {q : Mac} (h : MacOne w0 b p q w) (hb : Below w.heap.size w w') : MacOne w0 b p q w' := ⟨h.1.below hb, below_on h.2 hb⟩
theorem MacOne.drew {w0 w : World} {b p : Nat} {q : Mac} (h : MacOne w0 b p q w) : MacOne w0 b p q w.drew := h.call (Below.refl _ _).drew
theorem MacOne.read (w0 : World) (b p : Nat) (q : Mac) : ∀ wx, MacOne w0 b p q wx → wx.cell? ⟨b, p, none⟩ = some (.string (bs q.name)) ∧ wx.cell? ⟨b, p + 1, none⟩ = some (.int .i64 q.mem) ∧ wx.cell? ⟨b, p + 2, none⟩ = some (.int .i64 q.cpu) ∧ wx.cell? ⟨b, p + 3, none⟩ = some (.int .i64 q.seen) := fun wx h => h.1
end Go.Proofs.YtkpmocbfedgfhaaGreat

/-
  The laws' own markContS, from any number on, and heldContS: what is marked in a row, and found again (gmf.py wrote this); walks over the dump.
-/
namespace Go.Proofs.YtkpmocbfedgfhaaGreat
open Go.RowKit
set_option linter.unusedVariables false
set_option linter.unusedSimpArgs false
def markC (k j : Nat) : Con := ⟨(k : Int) + 5 * (j : Int), (k : Int) + 5 * (j : Int) + 1, 109 :: dgs (k + 5 * j + 1 + 1), (k : Int) + 5 * (j : Int) + 1 + 1 + 1, (k : Int) + 5 * (j : Int) + 1 + 1 + 1 + 1⟩
def marksC (k n : Nat) : List Con := (List.range n).map (markC k)
theorem ConBlk.tail {w : World} {t : TypeId} {g n k : Nat} {l : List Con} (h : ConBlk w t g n k l) {p : Nat} (hp : k * 5 ≤ p) (v : Value) : ConBlk (w.setCell ⟨g, p, none⟩ v) t g n k l := by
  obtain ⟨arr, h1, h2, h3⟩ := h
  refine ⟨_, heap_setCell_same w g p _ _ v h1, by simp [h2], fun i hi hik => ?_⟩
  obtain ⟨a, b, c, d, e⟩ := h3 i hi hik
  refine ⟨?_, ?_, ?_, ?_, ?_⟩
  · rw [← a, Array.getElem?_setIfInBounds, if_neg (by omega)]
  · rw [← b, Array.getElem?_setIfInBounds, if_neg (by omega)]
  · rw [← c, Array.getElem?_setIfInBounds, if_neg (by omega)]
  · rw [← d, Array.getElem?_setIfInBounds, if_neg (by omega)]
  · rw [← e, Array.getElem?_setIfInBounds, if_neg (by omega)]
theorem ConBlk.next {w : World} {t : TypeId} {g n k : Nat} {l : List Con} (h : ConBlk w t g n k l) (c : ∀ hk : k < l.length, ConAt w g (k * 5) l[k]) : ConBlk w t g n (k + 1) l := by
  obtain ⟨arr, h1, h2, h3⟩ := h
  refine ⟨arr, h1, h2, fun i hi hik => ?_⟩
  by_cases e : i = k
  · subst e
    obtain ⟨c0, c1, c2, c3, c4⟩ := c hi
    simp [World.cell?, h1] at c0 c1 c2 c3 c4
    exact ⟨c0, c1, c2, c3, c4⟩
  · exact h3 i hi (by omega)
/-- one stands at a place; of w0 nothing has turned -/
def ConOne (w0 : World) (b p : Nat) (q : Con) (w : World) : Prop := ConAt w b p q ∧ Below w0.heap.size w0 w
theorem ConOne.call {w0 w w' : World} {b p : Nat} {q : Con} (h : ConOne w0 b p q w) (hb : Below w.heap.size w w') : ConOne w0 b p q w' := ⟨h.1.below hb, below_on h.2 hb⟩
theorem ConOne.drew {w0 w : World} {b p : Nat} {q : Con} (h : ConOne w0 b p q w) : ConOne w0 b p q w.drew := h.call (Below.refl _ _).drew
theorem ConOne.read (w0 : World) (b p : Nat) (q : Con) : ∀ wx, ConOne w0 b p q wx → wx.cell? ⟨b, p, none⟩ = some (.int .i64 q.id) ∧ wx.cell? ⟨b, p + 1, none⟩ = some (.int .i64 q.app) ∧ wx.cell? ⟨b, p + 2, none⟩ = some (.string (bs q.node)) ∧ wx.cell? ⟨b, p + 3, none⟩ = some (.int .i64 q.mem) ∧ wx.cell? ⟨b, p + 4, none⟩ = some (.int .i64 q.cpu) := fun wx h => h.1
end Go.Proofs.YtkpmocbfedgfhaaGreat

/-
  The laws' own markAskS, from any number on, and heldAskS: what is marked in a row of asks, and found again; walks over the dump.
-/
namespace Go.Proofs.YtkpmocbfedgfhaaGreat
open Go.RowKit
set_option linter.unusedVariables false
/-- the ask of marks at place j, from k on -/
def markA (k j : Nat) : Ask := ⟨(k : Int) + 5 * (j : Int), (k : Int) + 5 * (j : Int) + 1, (k : Int) + 5 * (j : Int) + 1 + 1, 109 :: dgs (k + 5 * j + 1 + 1 + 1), (k : Int) + 5 * (j : Int) + 1 + 1 + 1 + 1⟩
def marksA (k n : Nat) : List Ask := (List.range n).map (markA k)
theorem AskBlk.tail {w : World} {t : TypeId} {g n k : Nat} {l : List Ask} (h : AskBlk w t g n k l) {p : Nat} (hp : k * 5 ≤ p) (v : Value) : AskBlk (w.setCell ⟨g, p, none⟩ v) t g n k l := by
  obtain ⟨arr, h1, h2, h3⟩ := h
  refine ⟨_, heap_setCell_same w g p _ _ v h1, by simp [h2], fun i hi hik => ?_⟩
  obtain ⟨a, b, c, d, e⟩ := h3 i hi hik
  refine ⟨?_, ?_, ?_, ?_, ?_⟩
  · rw [← a, Array.getElem?_setIfInBounds, if_neg (by omega)]
  · rw [← b, Array.getElem?_setIfInBounds, if_neg (by omega)]
  · rw [← c, Array.getElem?_setIfInBounds, if_neg (by omega)]
  · rw [← d, Array.getElem?_setIfInBounds, if_neg (by omega)]
  · rw [← e, Array.getElem?_setIfInBounds, if_neg (by omega)]
theorem AskBlk.next {w : World} {t : TypeId} {g n k : Nat} {l : List Ask} (h : AskBlk w t g n k l) (c : ∀ hk : k < l.length, AskAt w g (k * 5) l[k]) : AskBlk w t g n (k + 1) l := by
  obtain ⟨arr, h1, h2, h3⟩ := h
  refine ⟨arr, h1, h2, fun i hi hik => ?_⟩
  by_cases e : i = k
  · subst e
    obtain ⟨c0, c1, c2, c3, c4⟩ := c hi
    simp [World.cell?, h1] at c0 c1 c2 c3 c4
    exact ⟨c0, c1, c2, c3, c4⟩
  · exact h3 i hi (by omega)
theorem cellKeep {w : World} {g p q : Nat} {u v : Value} (h : w.cell? ⟨g, p, none⟩ = some u) (hne : q ≠ p) : (w.setCell ⟨g, q, none⟩ v).cell? ⟨g, p, none⟩ = some u :=
  (World.cell?_setCell_other _ _ _ _ (fun e => hne (congrArg Addr.off e))).trans h
theorem cellBel {w w' : World} {g p : Nat} {u : Value} (h : w.cell? ⟨g, p, none⟩ = some u) (hb : Below w.heap.size w w') : w'.cell? ⟨g, p, none⟩ = some u := (hb.cell (cell_lt h)).trans h

end Go.Proofs.YtkpmocbfedgfhaaGreat

/-
  Whether the marks of asks stand: the laws' own heldAskS; walks over the dump.
-/
namespace Go.Proofs.YtkpmocbfedgfhaaGreat
open Go.RowKit
set_option linter.unusedVariables false
/-- an ask stands at a place; of w0 nothing has turned -/
def AskOne (w0 : World) (b p : Nat) (q : Ask) (w : World) : Prop := AskAt w b p q ∧ Below w0.heap.size w0 w
theorem AskOne.call {w0 w w' : World} {b p : Nat} {q : Ask} (h : AskOne w0 b p q w) (hb : Below w.heap.size w w') : AskOne w0 b p q w' := ⟨h.1.below hb, below_on h.2 hb⟩
theorem AskOne.drew {w0 w : World} {b p : Nat} {q : Ask} (h : AskOne w0 b p q w) : AskOne w0 b p q w.drew := h.call (Below.refl _ _).drew
theorem AskOne.read (w0 : World) (b p : Nat) (q : Ask) : ∀ wx, AskOne w0 b p q wx → wx.cell? ⟨b, p, none⟩ = some (.int .i64 q.mem) ∧ wx.cell? ⟨b, p + 1, none⟩ = some (.int .i64 q.cpu) ∧ wx.cell? ⟨b, p + 2, none⟩ = some (.int .i64 q.count) ∧ wx.cell? ⟨b, p + 3, none⟩ = some (.string (bs q.node)) ∧ wx.cell? ⟨b, p + 4, none⟩ = some (.int .i64 q.missed) :=
  fun wx h => h.1
end Go.Proofs.YtkpmocbfedgfhaaGreat

/-
  The laws' own markAppS and heldAppS over applications whose asks lie in blocks of their own: what is marked, and found again; walks over the dump.
-/
namespace Go.Proofs.YtkpmocbfedgfhaaGreat
open Go.RowKit
set_option linter.unusedVariables false
/-- the number behind the marks of these applications -/
def endM : Nat → List AV → Nat
  | K, [] => K
  | K, v :: t => endM (K + 2 + 5 * v.len) t
/-- the heads as they are marked from K on -/
def hsM : Nat → List AV → List AV
  | _, [] => []
  | K, v :: t => ⟨(K : Int), 109 :: dgs (K + 1), v.ao, v.len, v.cap⟩ :: hsM (K + 2 + 5 * v.len) t
/-- the asks bear their marks -/
def AsksM (w : World) : Nat → List AV → Prop
  | _, [] => True
  | K, v :: t => AskRow w v.ao v.len (marksA (K + 2) v.len) ∧ AsksM w (K + 2 + 5 * v.len) t
theorem AsksM.below {w w' : World} (hb : Below w.heap.size w w') : ∀ (l : List AV) (K : Nat), AsksM w K l → AsksM w' K l
  | [], _, _ => trivial
  | v :: t, K, h => ⟨h.1.below hb, AsksM.below hb t _ h.2⟩
/-- one application's head stands; of w0 nothing has turned -/
def AVOne (w0 : World) (b p : Nat) (q : AV) (w : World) : Prop := AVAt w b p q ∧ Below w0.heap.size w0 w
theorem AVOne.call {w0 w w' : World} {b p : Nat} {q : AV} (h : AVOne w0 b p q w) (hb : Below w.heap.size w w') : AVOne w0 b p q w' := ⟨h.1.below hb, below_on h.2 hb⟩
theorem AVOne.drew {w0 w : World} {b p : Nat} {q : AV} (h : AVOne w0 b p q w) : AVOne w0 b p q w.drew := h.call (Below.refl _ _).drew
theorem AVOne.read (w0 : World) (b p : Nat) (q : AV) : ∀ wx, AVOne w0 b p q wx → wx.cell? ⟨b, p, none⟩ = some (.int .i64 q.id) ∧ wx.cell? ⟨b, p + 1, none⟩ = some (.string (bs q.queue)) ∧ wx.cell? ⟨b, p + 2, none⟩ = some (.slice q.ao q.len q.cap) := fun wx h => h.1

end Go.Proofs.YtkpmocbfedgfhaaGreat

/-
  The laws' own markQueueS and heldQueueS: what is marked in a row of queues, and found again; walks over the dump.
-/
namespace Go.Proofs.YtkpmocbfedgfhaaGreat
open Go.RowKit
set_option linter.unusedVariables false
/-- the queue of marks at place j -/
def markQ (j : Nat) : Q := ⟨109 :: dgs (1 + 4 * j), 109 :: dgs (1 + 4 * j + 1), 1 + 4 * (j : Int) + 1 + 1, 1 + 4 * (j : Int) + 1 + 1 + 1⟩
def marksQ (n : Nat) : List Q := (List.range n).map markQ
theorem QBlk.tail {w : World} {t : TypeId} {g n k : Nat} {l : List Q} (h : QBlk w t g n k l) {p : Nat} (hp : k * 4 ≤ p) (v : Value) : QBlk (w.setCell ⟨g, p, none⟩ v) t g n k l := by
  obtain ⟨arr, h1, h2, h3⟩ := h
  refine ⟨_, heap_setCell_same w g p _ _ v h1, by simp [h2], fun i hi hik => ?_⟩
  obtain ⟨a, b, c, d⟩ := h3 i hi hik
  refine ⟨?_, ?_, ?_, ?_⟩
  · rw [← a, Array.getElem?_setIfInBounds, if_neg (by omega)]
  · rw [← b, Array.getElem?_setIfInBounds, if_neg (by omega)]
  · rw [← c, Array.getElem?_setIfInBounds, if_neg (by omega)]
  · rw [← d, Array.getElem?_setIfInBounds, if_neg (by omega)]
theorem QBlk.next {w : World} {t : TypeId} {g n k : Nat} {l : List Q} (h : QBlk w t g n k l) (c : ∀ hk : k < l.length, QAt w g (k * 4) l[k]) : QBlk w t g n (k + 1) l := by
  obtain ⟨arr, h1, h2, h3⟩ := h
  refine ⟨arr, h1, h2, fun i hi hik => ?_⟩
  by_cases e : i = k
  · subst e
    obtain ⟨c0, c1, c2, c3⟩ := c hi
    simp [World.cell?, h1] at c0 c1 c2 c3
    exact ⟨c0, c1, c2, c3⟩
  · exact h3 i hi (by omega)
theorem cell_keep {w : World} {g p q : Nat} {u v : Value} (h : w.cell? ⟨g, p, none⟩ = some u) (hne : q ≠ p) : (w.setCell ⟨g, q, none⟩ v).cell? ⟨g, p, none⟩ = some u :=
  (World.cell?_setCell_other _ _ _ _ (fun e => hne (congrArg Addr.off e))).trans h
end Go.Proofs.YtkpmocbfedgfhaaGreat

/-
  The laws' own heldQueueS: the marks are found again; a walk over the dump.
-/
namespace Go.Proofs.YtkpmocbfedgfhaaGreat
open Go.RowKit
set_option linter.unusedVariables false
/-- a queue stands at a place; of w0 nothing has turned -/
def QOne (w0 : World) (b p : Nat) (q : Q) (w : World) : Prop := QAt w b p q ∧ Below w0.heap.size w0 w
theorem QOne.call {w0 w w' : World} {b p : Nat} {q : Q} (h : QOne w0 b p q w) (hb : Below w.heap.size w w') : QOne w0 b p q w' := ⟨h.1.below hb, below_on h.2 hb⟩
theorem QOne.drew {w0 w : World} {b p : Nat} {q : Q} (h : QOne w0 b p q w) : QOne w0 b p q w.drew := h.call (Below.refl _ _).drew
theorem QOne.read (w0 : World) (b p : Nat) (q : Q) : ∀ wx, QOne w0 b p q wx → wx.cell? ⟨b, p, none⟩ = some (.string (bs q.name)) ∧ wx.cell? ⟨b, p + 1, none⟩ = some (.string (bs q.parent)) ∧ wx.cell? ⟨b, p + 2, none⟩ = some (.int .i64 q.due) ∧ wx.cell? ⟨b, p + 3, none⟩ = some (.int .i64 q.most) :=
  fun wx h => ⟨h.1.1, h.1.2.1, h.1.2.2.1, h.1.2.2.2⟩
end Go.Proofs.YtkpmocbfedgfhaaGreat

/-
  Rows that an answer owns; what the laws' own marks turn in them, and leave alone; walks over the dump.
-/
namespace Go.Proofs.YtkpmocbfedgfhaaGreat
open Go.RowKit
set_option linter.unusedVariables false
theorem Cel.type {w : World} {t t' : TypeId} {g N N' : Nat} (h : Cel w t g N) (h' : Cel w t' g N') : t = t' := by
  obtain ⟨a, h1, _⟩ := h
  obtain ⟨b, h2, _⟩ := h'
  rw [h1] at h2
  cases h2
  rfl
/-- of all that was there nothing has turned but cells of the blocks of S -/
structure Mks (S : Nat → Prop) (w w' : World) : Prop where
  os : w'.os = w.os
  tape : w'.tape = w.tape
  output : w'.output = w.output
  size : w.heap.size ≤ w'.heap.size
  block : ∀ k, k < w.heap.size → ¬ S k → w'.heap[k]? = w.heap[k]?
  cel : ∀ t g N, Cel w t g N → Cel w' t g N
theorem Mks.refl (S : Nat → Prop) (w : World) : Mks S w w := ⟨rfl, rfl, rfl, Nat.le_refl _, fun _ _ _ => rfl, fun _ _ _ h => h⟩
theorem Mks.trans {S : Nat → Prop} {a b c : World} (h : Mks S a b) (k : Mks S b c) : Mks S a c :=
  ⟨k.os.trans h.os, k.tape.trans h.tape, k.output.trans h.output, Nat.le_trans h.size k.size, fun i hi ho => (k.block i (Nat.lt_of_lt_of_le hi h.size) ho).trans (h.block i hi ho), fun t g N x => k.cel t g N (h.cel t g N x)⟩
theorem Mks.mono {S S' : Nat → Prop} {a b : World} (h : Mks S a b) (hs : ∀ k, S k → S' k) : Mks S' a b :=
  ⟨h.os, h.tape, h.output, h.size, fun i hi ho => h.block i hi (fun hk => ho (hs i hk)), h.cel⟩
theorem Mks.of_below {S : Nat → Prop} {w w' : World} (hb : Below w.heap.size w w') : Mks S w w' := ⟨hb.os, hb.tape, hb.output, hb.size, fun i hi _ => hb.block i hi, fun t g N x => x.below hb⟩
theorem Mks.on {S : Nat → Prop} {a w w' : World} (h : Mks S a w) (hb : Below w.heap.size w w') : Mks S a w' := h.trans (.of_below hb)
theorem Mks.one (S : Nat → Prop) (w : World) (g j : Nat) (v : Value) (hg : S g) : Mks S w (w.setCell ⟨g, j, none⟩ v) :=
  ⟨rfl, rfl, rfl, by simp [World.setCell], fun k _ ho => Below.heap_setCell _ _ _ _ (by show k ≠ g; intro e; exact ho (e ▸ hg)), fun t g' N x => x.set g j v⟩
theorem Mks.sc {S : Nat → Prop} {a w : World} (h : Mks S a w) (g j : Nat) (v : Value) (hg : S g) : Mks S a (w.setCell ⟨g, j, none⟩ v) := h.trans (.one S w g j v hg)
theorem Mkd.mks {g : Nat} {w w' : World} (h : Mkd g (g + 1) w w') : Mks (fun k => k = g) w w' := ⟨h.os, h.tape, h.output, h.size, fun i hi ho => h.block i hi (by omega), h.cel⟩
theorem Mks.below {S : Nat → Prop} {B : Nat} {a w : World} (h : Mks S a w) (hS : ∀ k, S k → B ≤ k) (hB : B ≤ a.heap.size) : Below B a w :=
  ⟨h.os, h.tape, h.output, h.size, fun k hk => h.block k (by omega) (fun hs => by have := hS k hs; omega)⟩
theorem Mks.blk {S : Nat → Prop} {g : Nat} {a w : World} {arr : Array Value} {t : TypeId} (h : Mks S a w) (hb : Blk a g arr t) (ho : ¬ S g) : Blk w g arr t := (h.block g hb.lt ho).trans hb

/-- the block of a row of n things -/
def inR (ao : Option Addr) (n : Nat) (k : Nat) : Prop := n ≠ 0 ∧ ∃ o, ao = some ⟨k, o, none⟩
/-- a row of n things of sz cells in a block of its own, from B on and below E -/
def Own1 (B E : Nat) (w : World) (t : TypeId) (sz : Nat) (ao : Option Addr) (n : Nat) : Prop := n = 0 ∨ ∃ g M, ao = some ⟨g, 0, none⟩ ∧ B ≤ g ∧ g < E ∧ Cel w t g (M * sz) ∧ n ≤ M
/-- a row that is owned has room for as many as its capacity says -/
theorem own1_of {w : World} {B sz n n' c : Nat} {e : TypeId} {ao : Option Addr} {xs : List Value} (h : w.ownsRow B e sz (.slice ao n c) n' xs) : Own1 B w.heap.size w e sz ao c := by
  rcases h.2 with ⟨h1, _⟩ | ⟨g, cap, cur, h1, h2, h3, _, _, h4, _⟩
  · cases h1; exact .inl rfl
  · cases h1; exact .inr ⟨g, c, rfl, h2, lt_of_block h3, ⟨cur, h3, h4⟩, Nat.le_refl _⟩
theorem Own1.below {B E : Nat} {w w' : World} {t : TypeId} {sz n : Nat} {ao : Option Addr} (h : Own1 B E w t sz ao n) (hb : Below w.heap.size w w') : Own1 B E w' t sz ao n := by
  rcases h with h | ⟨g, M, h1, h2, h3, h4, h5⟩
  · exact .inl h
  · exact .inr ⟨g, M, h1, h2, h3, h4.below hb, h5⟩
theorem Own1.mks {B E : Nat} {w w' : World} {t : TypeId} {sz n : Nat} {ao : Option Addr} {S : Nat → Prop} (h : Own1 B E w t sz ao n) (hb : Mks S w w') : Own1 B E w' t sz ao n := by
  rcases h with h | ⟨g, M, h1, h2, h3, h4, h5⟩
  · exact .inl h
  · exact .inr ⟨g, M, h1, h2, h3, hb.cel _ _ _ h4, h5⟩
theorem Own1.sc {B E : Nat} {w : World} {t : TypeId} {sz n : Nat} {ao : Option Addr} (h : Own1 B E w t sz ao n) (k j : Nat) (v : Value) : Own1 B E (w.setCell ⟨k, j, none⟩ v) t sz ao n := by
  rcases h with h | ⟨g, M, h1, h2, h3, h4, h5⟩
  · exact .inl h
  · exact .inr ⟨g, M, h1, h2, h3, h4.set k j v, h5⟩
theorem Own1.mono {B E B' E' : Nat} {w : World} {t : TypeId} {sz n : Nat} {ao : Option Addr} (h : Own1 B E w t sz ao n) (h1 : B' ≤ B) (h2 : E ≤ E') : Own1 B' E' w t sz ao n := by
  rcases h with h | ⟨g, M, a, b, c, d⟩
  · exact .inl h
  · exact .inr ⟨g, M, a, by omega, by omega, d⟩
theorem Own1.lies {B E : Nat} {w : World} {t : TypeId} {sz n : Nat} {ao : Option Addr} (h : Own1 B E w t sz ao n) : ∀ k, inR ao n k → B ≤ k ∧ k < E ∧ ∃ N, Cel w t k N := by
  rintro k ⟨hn, o, e⟩
  rcases h with h | ⟨g, M, h1, h2, h3, h4, h5⟩
  · exact absurd h hn
  · rw [h1] at e
    cases e
    exact ⟨h2, h3, _, h4⟩
/-- rows of two types lie apart -/
theorem Own1.apart {B E B' E' : Nat} {w : World} {t t' : TypeId} {sz sz' n n' : Nat} {ao bo : Option Addr} (h : Own1 B E w t sz ao n) (h' : Own1 B' E' w t' sz' bo n') (ht : t ≠ t') : ∀ k, inR ao n k → ¬ inR bo n' k := fun k hk hk' => by
  obtain ⟨_, _, N, h1⟩ := h.lies k hk
  obtain ⟨_, _, N', h2⟩ := h'.lies k hk'
  exact ht (h1.type h2)

theorem cellMks {S : Nat → Prop} {w w' : World} {g p : Nat} {u : Value} (h : w.cell? ⟨g, p, none⟩ = some u) (hm : Mks S w w') (hg : ¬ S g) : w'.cell? ⟨g, p, none⟩ = some u :=
  (World.cell?_of_block (w := w) (a := ⟨g, p, none⟩) (hm.block g (cell_lt h) hg)).trans h
theorem QRow.mks {S : Nat → Prop} {w w' : World} {ao : Option Addr} {len : Nat} {l : List Q} (h : QRow w ao len l) (hm : Mks S w w') (hs : ∀ k, inR ao len k → ¬ S k) : QRow w' ao len l := by
  obtain ⟨h1, h2⟩ := h
  refine ⟨h1, ?_⟩
  rcases h2 with h2 | ⟨b, off, h3, h4⟩
  · exact .inl h2
  · by_cases hz : len = 0
    · exact .inl hz
    · have hb := hs b ⟨hz, off, h3⟩
      exact .inr ⟨b, off, h3, fun i h => let ⟨a, c, d, e⟩ := h4 i h; ⟨cellMks a hm hb, cellMks c hm hb, cellMks d hm hb, cellMks e hm hb⟩⟩
theorem MacRow.mks {S : Nat → Prop} {w w' : World} {ao : Option Addr} {len : Nat} {l : List Mac} (h : MacRow w ao len l) (hm : Mks S w w') (hs : ∀ k, inR ao len k → ¬ S k) : MacRow w' ao len l := by
  obtain ⟨h1, h2⟩ := h
  refine ⟨h1, ?_⟩
  rcases h2 with h2 | ⟨b, off, h3, h4⟩
  · exact .inl h2
  · by_cases hz : len = 0
    · exact .inl hz
    · have hb := hs b ⟨hz, off, h3⟩
      exact .inr ⟨b, off, h3, fun i h => let ⟨a, c, d, e⟩ := h4 i h; ⟨cellMks a hm hb, cellMks c hm hb, cellMks d hm hb, cellMks e hm hb⟩⟩
theorem ConRow.mks {S : Nat → Prop} {w w' : World} {ao : Option Addr} {len : Nat} {l : List Con} (h : ConRow w ao len l) (hm : Mks S w w') (hs : ∀ k, inR ao len k → ¬ S k) : ConRow w' ao len l := by
  obtain ⟨h1, h2⟩ := h
  refine ⟨h1, ?_⟩
  rcases h2 with h2 | ⟨b, off, h3, h4⟩
  · exact .inl h2
  · by_cases hz : len = 0
    · exact .inl hz
    · have hb := hs b ⟨hz, off, h3⟩
      exact .inr ⟨b, off, h3, fun i h => let ⟨a, c, d, e, f⟩ := h4 i h; ⟨cellMks a hm hb, cellMks c hm hb, cellMks d hm hb, cellMks e hm hb, cellMks f hm hb⟩⟩
theorem AskRow.mks {S : Nat → Prop} {w w' : World} {ao : Option Addr} {len : Nat} {l : List Ask} (h : AskRow w ao len l) (hm : Mks S w w') (hs : ∀ k, inR ao len k → ¬ S k) : AskRow w' ao len l := by
  obtain ⟨h1, h2⟩ := h
  refine ⟨h1, ?_⟩
  rcases h2 with h2 | ⟨b, off, h3, h4⟩
  · exact .inl h2
  · by_cases hz : len = 0
    · exact .inl hz
    · have hb := hs b ⟨hz, off, h3⟩
      exact .inr ⟨b, off, h3, fun i h => let ⟨a, c, d, e, f⟩ := h4 i h; ⟨cellMks a hm hb, cellMks c hm hb, cellMks d hm hb, cellMks e hm hb, cellMks f hm hb⟩⟩
theorem AVRow.mks {S : Nat → Prop} {w w' : World} {ao : Option Addr} {len : Nat} {l : List AV} (h : AVRow w ao len l) (hm : Mks S w w') (hs : ∀ k, inR ao len k → ¬ S k) : AVRow w' ao len l := by
  obtain ⟨h1, h2⟩ := h
  refine ⟨h1, ?_⟩
  rcases h2 with h2 | ⟨b, off, h3, h4⟩
  · exact .inl h2
  · by_cases hz : len = 0
    · exact .inl hz
    · have hb := hs b ⟨hz, off, h3⟩
      exact .inr ⟨b, off, h3, fun i h => let ⟨a, c, d⟩ := h4 i h; ⟨cellMks a hm hb, cellMks c hm hb, cellMks d hm hb⟩⟩
theorem AsksM.mks {S : Nat → Prop} {w w' : World} (hm : Mks S w w') : ∀ (l : List AV) (K : Nat), AsksM w K l → (∀ v ∈ l, ∀ k, inR v.ao v.len k → ¬ S k) → AsksM w' K l
  | [], _, _, _ => trivial
  | v :: t, K, h, hs => ⟨h.1.mks hm (hs v (by simp)), AsksM.mks hm t _ h.2 (fun u hu => hs u (by simp [hu]))⟩
/-- the asks of two applications lie apart -/
def Apart (u v : AV) : Prop := u.len = 0 ∨ v.len = 0 ∨ u.ao ≠ v.ao

/-- block g is M heads of applications, of which these are the first -/
def AVBlk (w : World) (g M : Nat) (l : List AV) : Prop := Cel w 44 g (M * 3) ∧ l.length ≤ M ∧ ∀ i (h : i < l.length), AVAt w g (i * 3) l[i]
theorem AVBlk.below {w w' : World} {g M : Nat} {l : List AV} (h : AVBlk w g M l) (hb : Below w.heap.size w w') : AVBlk w' g M l := ⟨h.1.below hb, h.2.1, fun i hi => (h.2.2 i hi).below hb⟩
theorem AVBlk.mks {S : Nat → Prop} {w w' : World} {g M : Nat} {l : List AV} (h : AVBlk w g M l) (hm : Mks S w w') (hs : ¬ S g) : AVBlk w' g M l :=
  ⟨hm.cel _ _ _ h.1, h.2.1, fun i hi => let ⟨a, b, c⟩ := h.2.2 i hi; ⟨cellMks a hm hs, cellMks b hm hs, cellMks c hm hs⟩⟩
theorem AVBlk.id {w : World} {g M i : Nat} {l : List AV} (h : AVBlk w g M l) (hi : i < l.length) (x : Int) : AVBlk (w.setCell ⟨g, i * 3, none⟩ (.int .i64 x)) g M (l.set i ⟨x, l[i].queue, l[i].ao, l[i].len, l[i].cap⟩) := by
  refine ⟨h.1.set _ _ _, by simpa using h.2.1, fun j hj => ?_⟩
  have hj' : j < l.length := by simpa using hj
  obtain ⟨a, b, c⟩ := h.2.2 j hj'
  by_cases e : i = j
  · subst e
    simp only [List.getElem_set_self]
    exact ⟨World.cell?_setCell_same _ ⟨g, i * 3, none⟩ _ a, cellKeep b (by omega), cellKeep c (by omega)⟩
  · rw [List.getElem_set_ne e]
    exact ⟨cellKeep a (by omega), cellKeep b (by omega), cellKeep c (by omega)⟩
theorem AVBlk.row {w : World} {g M : Nat} {l : List AV} (h : AVBlk w g M l) : AVRow w (some ⟨g, 0, none⟩) l.length l := ⟨rfl, .inr ⟨g, 0, rfl, fun i hi => by rw [Nat.zero_add]; exact h.2.2 i hi⟩⟩

end Go.Proofs.YtkpmocbfedgfhaaGreat

/-
  The builtin copy over elements of several cells: as a law for the walk; rows of cells by what they begin with.
-/
namespace Go.Proofs.YtkpmocbfedgfhaaGreat
open Go.RowKit
set_option linter.unusedVariables false
theorem run_copy_many {P : Program} (w : World) (dT sT ty elem : TypeId) (g o dLen dCap : Nat) (a : Addr) (sLen sCap : Nat) (cur : Array Value) (t : TypeId) (cs : List Value) (sz : Nat)
    (hu : P.underlying dT = some (.slice elem)) (hs : (P.info? elem).map (·.size) = some sz)
    (hg : w.heap[g]? = some (.cells cur t (0, 0))) (hn : cs.length = Nat.min sLen dLen * sz)
    (hsrc : ∀ j v, cs[j]? = some v → w.cell? (a.add j) = some v) (hfit : o + cs.length ≤ cur.size) (h1 : ∀ v ∈ cs, v.oneCell' = true) :
    (Builtin.copy_ #[dT, sT] ty #[.slice (some ⟨g, o, none⟩) dLen dCap, .slice (some a) sLen sCap]).run P w =
      .ok (goInt (Nat.min sLen dLen)) (w.setRow g (cur.toList.take o ++ cs ++ cur.toList.drop (o + cs.length)).toArray) := by
  have hl := run_loadCells_list (P := P) w a cs hsrc
  have hst := run_storeCells_at P g o t cs 0 cur w hg (by simpa using hfit) h1
  obtain ⟨m, hm⟩ : ∃ m, Nat.min sLen dLen = m := ⟨_, rfl⟩
  rw [hm] at hn ⊢
  cases hq : P.info? elem with
  | none => simp [hq] at hs
  | some i =>
    have hi : i.size = sz := by simpa [hq] using hs
    rw [hn] at hl
    simp [Builtin.copy_, run_underlying hu, Builtin.lenOf, Builtin.firstCells, sizeOf, typeInfo, hq, hi, hm, hl, hst]
theorem run_copy_zero {P : Program} (w : World) (dT sT ty elem : TypeId) (d a : Option Addr) (dLen dCap sLen sCap sz : Nat) (hu : P.underlying dT = some (.slice elem)) (hs : (P.info? elem).map (·.size) = some sz) (hn : Nat.min sLen dLen = 0) :
    (Builtin.copy_ #[dT, sT] ty #[.slice d dLen dCap, .slice a sLen sCap]).run P w = .ok (goInt 0) w := by
  cases hq : P.info? elem with
  | none => simp [hq] at hs
  | some i =>
    have hl : ∀ (x : Addr), (loadCells x 0).run P w = .ok #[] w := fun x => by simpa using run_loadCells_list (P := P) w x [] (by simp)
    cases d <;> cases a <;> simp [Builtin.copy_, run_underlying hu, Builtin.lenOf, Builtin.firstCells, sizeOf, typeInfo, hq, hn, storeCells, hl]

theorem mks_setRow (w : World) (g : Nat) (cur : List Value) (new : List Value) (t : TypeId) (hg : w.heap[g]? = some (.cells cur.toArray t (0, 0))) (hl : new.length = cur.length) : Mks (fun k => k = g) w (w.setRow g new.toArray) := by
  refine ⟨rfl, rfl, rfl, by simp [World.setRow], fun k _ hk => setRow_other w g k _ (by omega), fun t' g' N h => ?_⟩
  by_cases e : g' = g
  · subst e
    obtain ⟨arr, h1, h2⟩ := h
    rw [hg] at h1
    cases h1
    exact ⟨_, setRow_heap w g' _ _ t _ hg, by simpa [hl] using h2⟩
  · exact h.of_block (setRow_other w g g' _ e)

theorem wp_copy_many {P : Program} {w : World} {o : Oper} {a : Act} {K : Act → World → Prop} {Q : Exit → Act → World → Prop} (d s : Operand) (dT sT : TypeId)
    (ho : o.op = .call { callee := .builtin .copy, args := #[d, s], argTypes := #[dT, sT] }) (elem : TypeId) (sz : Nat) (hu : P.underlying dT = some (.slice elem)) (hsz : (P.info? elem).map (·.size) = some sz)
    (dp sp : Option Addr) (dLen dCap sLen sCap : Nat) (hd : a.eval d = .slice dp dLen dCap) (hs : a.eval s = .slice sp sLen sCap)
    (g off : Nat) (cur : List Value) (t : TypeId) (hg : w.heap[g]? = some (.cells cur.toArray t (0, 0))) (cs : List Value) (m : Nat) (hm : m = Nat.min sLen dLen) (hn : cs.length = m * sz)
    (hpos : m ≠ 0 → dp = some ⟨g, off, none⟩ ∧ ∃ ad, sp = some ad ∧ ∀ j v, cs[j]? = some v → w.cell? (ad.add j) = some v)
    (hfit : off + cs.length ≤ cur.length) (h1 : ∀ v ∈ cs, v.oneCell' = true)
    (h : ∀ w', Hid (w'.heap[g]? = some (.cells (splice cur off cs).toArray t (0, 0))) → Hid (Mks (fun k => k = g) w w') → w'.heap.size = w.heap.size → K (a.put o.dst (goInt m)) w') :
    Oper.wp P o a w K Q := by
  by_cases h0 : m = 0
  · subst h0
    obtain rfl : cs = [] := List.eq_nil_of_length_eq_zero (by simpa using hn)
    have hrun := run_copy_zero (P := P) w dT sT o.type elem dp sp dLen dCap sLen sCap sz hu hsz hm.symm
    unfold Oper.wp
    simp [execOp, ho, resolve, invoke, builtin, hd, hs, hrun, Result.andThen]
    exact h w (show _ = _ by simpa [splice] using hg) (Mks.refl _ _) rfl
  · obtain ⟨rfl, ad, rfl, hsrc⟩ := hpos h0
    have hrun := run_copy_many (P := P) w dT sT o.type elem g off dLen dCap ad sLen sCap cur.toArray t cs sz hu hsz hg (by rw [hn, hm]) hsrc (by simpa using hfit) h1
    unfold Oper.wp
    rw [← hm] at hrun
    simp [execOp, ho, resolve, invoke, builtin, hd, hs, hrun, Result.andThen]
    have e : (List.take off cur ++ (cs ++ List.drop (off + cs.length) cur)) = splice cur off cs := rfl
    have hh := h (w.setRow g (splice cur off cs).toArray) (show _ = _ from setRow_heap w g _ _ t _ hg) (mks_setRow w g cur _ t hg (length_splice cur off cs hfit)) (by simp [World.setRow])
    rw [← e] at hh
    exact hh
theorem wpList_copy_many {P : Program} {w : World} {ops : Array Oper} {rest : List Oper} {o : Oper} {a : Act} {Q : Exit → Act → World → Prop} (hgd : o.guard = none) (d s : Operand) (dT sT : TypeId)
    (ho : o.op = .call { callee := .builtin .copy, args := #[d, s], argTypes := #[dT, sT] }) (elem : TypeId) (sz : Nat) (hu : P.underlying dT = some (.slice elem)) (hsz : (P.info? elem).map (·.size) = some sz)
    (dp sp : Option Addr) (dLen dCap sLen sCap : Nat) (hd : a.eval d = .slice dp dLen dCap) (hs : a.eval s = .slice sp sLen sCap)
    (g off : Nat) (cur : List Value) (t : TypeId) (hg : w.heap[g]? = some (.cells cur.toArray t (0, 0))) (cs : List Value) (m : Nat) (hm : m = Nat.min sLen dLen) (hn : cs.length = m * sz)
    (hpos : m ≠ 0 → dp = some ⟨g, off, none⟩ ∧ ∃ ad, sp = some ad ∧ ∀ j v, cs[j]? = some v → w.cell? (ad.add j) = some v)
    (hfit : off + cs.length ≤ cur.length) (h1 : ∀ v ∈ cs, v.oneCell' = true)
    (h : ∀ w', Hid (w'.heap[g]? = some (.cells (splice cur off cs).toArray t (0, 0))) → Hid (Mks (fun k => k = g) w w') → w'.heap.size = w.heap.size → wpList P ops Q rest (a.put o.dst (goInt m)) w') :
    wpList P ops Q (o :: rest) a w :=
  wpList_plain hgd fun _ hK => wp_copy_many d s dT sT ho elem sz hu hsz dp sp dLen dCap sLen sCap hd hs g off cur t hg cs m hm hn hpos hfit h1 fun w' a1 a2 a3 => hK _ _ (h w' a1 a2 a3)
theorem step_copy_many {P : Program} {w : World} {ops : Array Oper} {o : Oper} {a : Act} {K : Act → World → Prop} {Q : Exit → Act → World → Prop} {E : Prop} (hgd : o.guard = none) (d s : Operand) (dT sT : TypeId)
    (ho : o.op = .call { callee := .builtin .copy, args := #[d, s], argTypes := #[dT, sT] }) (elem : TypeId) (sz : Nat) (hu : P.underlying dT = some (.slice elem)) (hsz : (P.info? elem).map (·.size) = some sz)
    (dp sp : Option Addr) (dLen dCap sLen sCap : Nat) (hd : a.eval d = .slice dp dLen dCap) (hs : a.eval s = .slice sp sLen sCap)
    (g off : Nat) (cur : List Value) (t : TypeId) (hg : w.heap[g]? = some (.cells cur.toArray t (0, 0))) (cs : List Value) (m : Nat) (hm : m = Nat.min sLen dLen) (hn : cs.length = m * sz)
    (hpos : m ≠ 0 → dp = some ⟨g, off, none⟩ ∧ ∃ ad, sp = some ad ∧ ∀ j v, cs[j]? = some v → w.cell? (ad.add j) = some v)
    (hfit : off + cs.length ≤ cur.length) (h1 : ∀ v ∈ cs, v.oneCell' = true)
    (h : ∀ w', Hid (w'.heap[g]? = some (.cells (splice cur off cs).toArray t (0, 0))) → Hid (Mks (fun k => k = g) w w') → w'.heap.size = w.heap.size → K (a.put o.dst (goInt m)) w') :
    if Region.wanted o (yielded ops a.tmps) = true then Oper.wp P o a w K Q else E := by
  have hw : Region.wanted o (yielded ops a.tmps) = true := by simp [Region.wanted, hgd]
  rw [if_pos hw]
  exact wp_copy_many d s dT sT ho elem sz hu hsz dp sp dLen dCap sLen sCap hd hs g off cur t hg cs m hm hn hpos hfit h1 h

/-- block g is M cells of type t that may be written, of which these are the first -/
def Lay (w : World) (t : TypeId) (g M : Nat) (cs : List Value) : Prop := ∃ R : List Value, w.heap[g]? = some (.cells (cs ++ R).toArray t (0, 0)) ∧ (cs ++ R).length = M
theorem Lay.lt {w : World} {t : TypeId} {g M : Nat} {cs : List Value} (h : Lay w t g M cs) : g < w.heap.size := let ⟨_, h, _⟩ := h; lt_of_block h
theorem Lay.of_block {w w' : World} {t : TypeId} {g M : Nat} {cs : List Value} (h : Lay w t g M cs) (e : w'.heap[g]? = w.heap[g]?) : Lay w' t g M cs := let ⟨R, h1, h2⟩ := h; ⟨R, e.trans h1, h2⟩
theorem Lay.below {w w' : World} {t : TypeId} {g M : Nat} {cs : List Value} (h : Lay w t g M cs) (hb : Below w.heap.size w w') : Lay w' t g M cs := h.of_block (hb.block g h.lt)
theorem Lay.other {w : World} {t : TypeId} {g M : Nat} {cs : List Value} (h : Lay w t g M cs) (k j : Nat) (v : Value) (hk : g ≠ k) : Lay (w.setCell ⟨k, j, none⟩ v) t g M cs := h.of_block (heap_setCell_other w ⟨k, j, none⟩ g v hk)
theorem Lay.cel {w : World} {t : TypeId} {g M : Nat} {cs : List Value} (h : Lay w t g M cs) : Cel w t g M := let ⟨R, h1, h2⟩ := h; ⟨_, h1, by simpa using h2⟩
theorem Lay.cell {w : World} {t : TypeId} {g M : Nat} {cs : List Value} (h : Lay w t g M cs) {j : Nat} {u : Value} (hj : cs[j]? = some u) : w.cell? ⟨g, j, none⟩ = some u := by
  obtain ⟨R, h1, h2⟩ := h
  have hl : j < cs.length := (List.getElem?_eq_some_iff.1 hj).1
  simp [World.cell?, h1, List.getElem?_append_left hl, hj]
end Go.Proofs.YtkpmocbfedgfhaaGreat
