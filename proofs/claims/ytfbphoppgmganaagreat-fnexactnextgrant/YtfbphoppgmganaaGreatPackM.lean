/-
  Several texts of this claim in one: OkM, NxM (pack.py put them together); each says in its own remark what is proved.
-/
import Derived.Test.YtfbphoppgmganaaGreatPackJ
import Derived.Test.YtfbphoppgmganaaGreatPackL
import Derived.Test.YtfbphoppgmganaaGreatOkI
import Derived.Test.YtfbphoppgmganaaGreatPackK
/-
  A state is right: that the program's way and the model's way to ask are one; plain words.
-/
namespace Go.Proofs.YtfbphoppgmganaaGreat
open Go.RowKit
set_option linter.unusedVariables false

/-- one amount behind the other taken away from what there is -/
def subsOk : Int → Int → List (Int × Int) → Bool
  | _, _, [] => true
  | x, y, r :: t => bothOk (-1) x y r.1 r.2 && subsOk (x + -1 * r.1) (y + -1 * r.2) t
theorem okSum : ∀ (l : List (Int × Int)) (x y : Int), resOk x y = true → resOk (sumFrom l x y).1 (sumFrom l x y).2.1 = true
  | [], x, y, h => h
  | r :: t, x, y, h => by
    rw [sumFrom]
    by_cases hb : bothOk 1 x y r.1 r.2 = true
    · rw [if_pos hb]
      refine okSum t _ _ ?_
      simp only [bothOk, Bool.and_eq_true] at hb
      exact hb.2
    · rw [if_neg hb]; decide
theorem sumFrom_each : ∀ (l : List (Int × Int)) (x y : Int), (sumFrom l x y).2.2 = true → ∀ r ∈ l, resOk r.1 r.2 = true
  | [], x, y, _, r, h => by simp at h
  | q :: t, x, y, h, r, hr => by
    rw [sumFrom] at h
    by_cases hb : bothOk 1 x y q.1 q.2 = true
    · rw [if_pos hb] at h
      rcases List.mem_cons.1 hr with rfl | hr
      · simp only [bothOk, Bool.and_eq_true] at hb; exact hb.1.2
      · exact sumFrom_each t _ _ h r hr
    · rw [if_neg hb] at h; cases h
theorem sumFrom_ge : ∀ (l : List (Int × Int)) (x y : Int), (sumFrom l x y).2.2 = true → x ≤ (sumFrom l x y).1 ∧ y ≤ (sumFrom l x y).2.1
  | [], x, y, _ => ⟨Int.le_refl _, Int.le_refl _⟩
  | r :: t, x, y, h => by
    rw [sumFrom] at h ⊢
    by_cases hb : bothOk 1 x y r.1 r.2 = true
    · rw [if_pos hb] at h ⊢
      have := sumFrom_ge t _ _ h
      have hr : resOk r.1 r.2 = true := by simp only [bothOk, Bool.and_eq_true] at hb; exact hb.1.2
      have := resOk_bd hr
      omega
    · rw [if_neg hb] at h; cases h
theorem subs_sum {X Y : Int} (hX : resOk X Y = true) : ∀ (l : List (Int × Int)) (x y : Int), resOk x y = true → x ≤ X → y ≤ Y → (subsOk (X + -1 * x) (Y + -1 * y) l = true ↔ (sumFrom l x y).2.2 = true ∧ (sumFrom l x y).1 ≤ X ∧ (sumFrom l x y).2.1 ≤ Y)
  | [], x, y, h, h1, h2 => by simp [subsOk, sumFrom, h1, h2]
  | r :: t, x, y, h, h1, h2 => by
    have bX := resOk_bd hX
    have bx := resOk_bd h
    rw [subsOk, sumFrom, Bool.and_eq_true]
    by_cases hs : bothOk (-1) (X + -1 * x) (Y + -1 * y) r.1 r.2 = true
    · have hs' := hs
      simp only [bothOk, Bool.and_eq_true] at hs'
      have br := resOk_bd hs'.1.2
      have bs' := resOk_bd hs'.2
      have hr2 : resOk (x + 1 * r.1) (y + 1 * r.2) = true := by simp only [resOk, inB, Bool.and_eq_true, decide_eq_true_eq]; omega
      have hp : bothOk 1 x y r.1 r.2 = true := by simp only [bothOk, Bool.and_eq_true]; exact ⟨⟨h, hs'.1.2⟩, hr2⟩
      rw [if_pos hp]
      have ih := subs_sum hX t (x + 1 * r.1) (y + 1 * r.2) hr2 (by omega) (by omega)
      rw [← ih]
      have e1 : X + -1 * (x + 1 * r.1) = X + -1 * x + -1 * r.1 := by omega
      have e2 : Y + -1 * (y + 1 * r.2) = Y + -1 * y + -1 * r.2 := by omega
      rw [e1, e2]
      exact ⟨fun hh => hh.2, fun hh => ⟨hs, hh⟩⟩
    · refine ⟨fun hh => absurd hh.1 hs, fun ⟨g1, g2, g3⟩ => absurd ?_ hs⟩
      by_cases hp : bothOk 1 x y r.1 r.2 = true
      · rw [if_pos hp] at g1 g2 g3
        have ge := sumFrom_ge t _ _ g1
        have hp' := hp
        simp only [bothOk, Bool.and_eq_true] at hp'
        have br := resOk_bd hp'.1.2
        simp only [bothOk, Bool.and_eq_true]
        refine ⟨⟨?_, hp'.1.2⟩, ?_⟩ <;> simp only [resOk, inB, Bool.and_eq_true, decide_eq_true_eq] <;> omega
      · rw [if_neg hp] at g1; cases g1
theorem hold_subs {cs : List Con} {m : Mac} (hr : resOk m.mem m.cpu = true) : holdM cs m = true ↔ subsOk m.mem m.cpu (usedL (fun q => decide (q.node = m.name)) cs) = true := by
  have h := subs_sum hr (usedL (fun q => decide (q.node = m.name)) cs) 0 0 (by decide) (resOk_bd hr).1 (resOk_bd hr).2.2.1
  rw [show m.mem + -1 * 0 = m.mem by omega, show m.cpu + -1 * 0 = m.cpu by omega] at h
  rw [h]
  simp only [holdM, hr, Bool.true_and, Bool.and_eq_true, sumR, within]
  refine ⟨fun ⟨a, b⟩ => ⟨a, of_decide_eq_true b.1.2, of_decide_eq_true b.2⟩, fun ⟨a, b, c⟩ => ⟨a, ⟨⟨⟨okSum _ 0 0 (by decide), trivial⟩, decide_eq_true b⟩, decide_eq_true c⟩⟩⟩

theorem leT_lt {a b : List UInt8} (h : leT a b = false) : Op.bytesLess (bs b).toList (bs a).toList = true := by
  simp only [leT, Bool.or_eq_false_iff] at h
  exact bl_tri _ _ h.1 (fun e => by rw [e] at h; simp at h)
theorem machs_above {ck : Int} : ∀ (l : List Mac) (last : List UInt8), machsFrom ck last l = true → ∀ m ∈ l, Op.bytesLess (bs last).toList (bs m.name).toList = true
  | [], _, _, m, h => by simp at h
  | q :: t, last, h, m, hm => by
    simp only [machsFrom, Bool.and_eq_true, Bool.not_eq_true'] at h
    have h1 := leT_lt h.1
    rcases List.mem_cons.1 hm with rfl | hm
    · exact h1
    · exact bl_trans _ _ _ h1 (machs_above t q.name h.2.2.2.2 m hm)
theorem machs_find {ck : Int} : ∀ (l : List Mac) (last : List UInt8), machsFrom ck last l = true → ∀ m ∈ l, findM m.name l = some m
  | [], _, _, m, h => by simp at h
  | q :: t, last, h, m, hm => by
    simp only [machsFrom, Bool.and_eq_true, Bool.not_eq_true'] at h
    rcases List.mem_cons.1 hm with rfl | hm
    · simp [findM]
    · have hab := machs_above t q.name h.2.2.2.2 m hm
      have hne : ¬ q.name = m.name := fun e => by rw [e, bl_irr] at hab; cases hab
      have := machs_find t q.name h.2.2.2.2 m hm
      simp only [findM] at this ⊢
      rw [List.find?_cons_of_neg (by simpa using hne)]
      exact this
theorem machsS_iff {ck : Int} {cs : List Con} : ∀ (l : List Mac) (last : List UInt8), machsS ck cs last l = true ↔ machsFrom ck last l = true ∧ ∀ m ∈ l, holdM cs m = true
  | [], _ => by simp [machsS, machsFrom]
  | q :: t, last => by
    simp only [machsS, machsFrom, Bool.and_eq_true, machsS_iff t q.name, List.mem_cons, forall_eq_or_imp]
    exact ⟨fun ⟨a, b, c, d, e, f, g⟩ => ⟨⟨a, b, c, d, f⟩, e, g⟩, fun ⟨⟨a, b, c, d, f⟩, e, g⟩ => ⟨a, b, c, d, e, f, g⟩⟩
theorem contsS_congr {apps : List Appl} {l l' : List Mac} (h : ∀ nm, (findM nm l').isSome = (findM nm l).isSome) : ∀ (cs : List Con) (last : Int), contsS apps l' last cs = contsS apps l last cs
  | [], _ => rfl
  | c :: t, last => by rw [contsS, contsS, h, contsS_congr h t]
theorem used_cons {nm : List UInt8} {c : Con} {t : List Con} : usedL (fun q => decide (q.node = nm)) (c :: t) = if c.node = nm then (c.mem, c.cpu) :: usedL (fun q => decide (q.node = nm)) t else usedL (fun q => decide (q.node = nm)) t := by
  by_cases h : c.node = nm
  · simp [usedL, h]
  · simp [usedL, h]
theorem conts_iff {apps : List Appl} : ∀ (cs : List Con) (l : List Mac) (last : Int), contsFrom apps l last cs = true ↔ contsS apps l last cs = true ∧ ∀ nm m, findM nm l = some m → subsOk m.mem m.cpu (usedL (fun q => decide (q.node = nm)) cs) = true
  | [], l, last => by simp [contsFrom, contsS, usedL, subsOk]
  | c :: t, l, last => by
    cases hf : findM c.node l with
    | none => simp [contsFrom, contsS, hf]
    | some m =>
      have hn := findM_name hf
      have ih := conts_iff (apps := apps) t (⟨m.name, m.mem + -1 * c.mem, m.cpu + -1 * c.cpu, m.seen⟩ :: l) c.id
      have hfind : ∀ nm, findM nm (⟨m.name, m.mem + -1 * c.mem, m.cpu + -1 * c.cpu, m.seen⟩ :: l) = if c.node = nm then some ⟨m.name, m.mem + -1 * c.mem, m.cpu + -1 * c.cpu, m.seen⟩ else findM nm l := fun nm => by
        by_cases e : c.node = nm
        · rw [if_pos e]; simp [findM, hn, e]
        · rw [if_neg e]; simp [findM, hn, e]
      have hsome : ∀ nm, (findM nm (⟨m.name, m.mem + -1 * c.mem, m.cpu + -1 * c.cpu, m.seen⟩ :: l)).isSome = (findM nm l).isSome := fun nm => by
        rw [hfind]
        by_cases e : c.node = nm
        · rw [if_pos e, ← e, hf]
          rfl
        · rw [if_neg e]
      rw [contsS_congr hsome] at ih
      simp only [contsFrom, contsS, hf, Option.isSome_some, Option.getD_some, Bool.true_and, Bool.and_eq_true, ih]
      constructor
      · rintro ⟨a, b, c1, d, e, f, g⟩
        refine ⟨⟨a, b, d, c1, f⟩, fun nm m2 hm2 => ?_⟩
        rw [used_cons]
        by_cases en : c.node = nm
        · rw [if_pos en]
          rw [← en, hf] at hm2
          cases hm2
          rw [subsOk, Bool.and_eq_true]
          exact ⟨e, g nm ⟨m.name, m.mem + -1 * c.mem, m.cpu + -1 * c.cpu, m.seen⟩ (by rw [hfind, if_pos en])⟩
        · rw [if_neg en]
          exact g nm m2 (by rw [hfind, if_neg en]; exact hm2)
      · rintro ⟨⟨a, b, d, c1, f⟩, g⟩
        have g0 := g c.node m hf
        rw [used_cons, if_pos rfl, subsOk, Bool.and_eq_true] at g0
        refine ⟨a, b, c1, d, g0.1, f, fun nm m2 hm2 => ?_⟩
        rw [hfind] at hm2
        by_cases en : c.node = nm
        · rw [if_pos en] at hm2
          cases hm2
          rw [← en]
          exact g0.2
        · rw [if_neg en] at hm2
          have := g nm m2 hm2
          rwa [used_cons, if_neg en] at this
theorem state_same (s : St) : stateOkI s = stateOkS s := by
  rw [Bool.eq_iff_iff]
  simp only [stateOkI, stateOkS, numsOk, machsOkV, machsOkS, contsOkV, Bool.and_eq_true, conts_iff, machsS_iff]
  have key : machsFrom s.clock [] s.ms = true → (sumR (capsOf s.ms)).2.2 = true → ((∀ nm m, findM nm s.ms = some m → subsOk m.mem m.cpu (usedL (fun q => decide (q.node = nm)) s.cs) = true) ↔ ∀ m ∈ s.ms, holdM s.cs m = true) := fun h1 h2 => by
    have hr : ∀ m ∈ s.ms, resOk m.mem m.cpu = true := fun m hm => sumFrom_each _ 0 0 h2 (m.mem, m.cpu) (by simp only [capsOf, List.mem_map]; exact ⟨m, hm, rfl⟩)
    constructor
    · intro h m hm
      exact (hold_subs (hr m hm)).2 (h m.name m (machs_find _ _ h1 m hm))
    · intro h nm m hf
      have hm : m ∈ s.ms := List.mem_of_find?_eq_some hf
      have hn := findM_name hf
      have := (hold_subs (hr m hm)).1 (h m hm)
      rwa [hn] at this
  constructor
  · rintro ⟨a, ⟨b1, b2, b3, b4⟩, c, ⟨d1, d2, d3⟩, e1, e2, e3⟩
    exact ⟨a, b1, b2, b3, b4, c, ⟨⟨d2, (key d2 d3).1 e3⟩, d3, d1⟩, e1, e2⟩
  · rintro ⟨a, b1, b2, b3, b4, c, ⟨⟨d2, hh⟩, d3, d1⟩, e1, e2⟩
    exact ⟨a, ⟨b1, b2, b3, b4⟩, c, ⟨d1, d2, d3⟩, e1, e2, (key d2 d3).2 hh⟩
def stateOkV (s : St) : Bool := stateOkS s
theorem specStateOk_any (x : Sls) (s : St) (w : World) (h : SRow w x s) (hf : FitSt s) :
    Calls Tryz.prog 41 #[sv x s] w fun e w' => e = .returned (.bool (stateOkV s)) ∧ Below w.heap.size w w' := stateOkS_any x s w h hf
theorem implStateOk_any (x : Sls) (s : St) (w : World) (h : SRow w x s) (hf : FitSt s) (hc : x.ql ≤ x.qc) (hw : WfSt s) :
    Calls Tryz.prog 65 #[sv x s] w fun e w' => e = .returned (.bool (stateOkV s)) ∧ Below w.heap.size w w' := by
  have := stateOkI_any x s w h hf hc hw
  rwa [state_same] at this
end Go.Proofs.YtfbphoppgmganaaGreat

/-
  The container that would be given next: in plain words.
-/
namespace Go.Proofs.YtfbphoppgmganaaGreat
open Go.RowKit
set_option linter.unusedVariables false

theorem appFrom_at {p : Ask → Bool} {qu : List UInt8} : ∀ {l : List Appl} {i : Nat} {r : Nat × Nat}, appFrom p qu l i = some r → i ≤ r.1 ∧ ∃ h : r.1 - i < l.length, r.2 < l[r.1 - i].asks.length
  | [], _, _, h => by cases h
  | a :: t, i, r, h => by
    have go : appFrom p qu t (i + 1) = some r → i ≤ r.1 ∧ ∃ h : r.1 - i < (a :: t).length, r.2 < (a :: t)[r.1 - i].asks.length := fun h => by
      obtain ⟨h1, h2, h3⟩ := appFrom_at h
      have e : r.1 - i = (r.1 - (i + 1)) + 1 := by omega
      refine ⟨by omega, by simp only [List.length_cons]; omega, ?_⟩
      simp only [e, List.getElem_cons_succ]
      exact h3
    rw [appFrom] at h
    split at h
    · split at h
      · rename_i k hk
        cases h
        have := askFrom_lt hk
        refine ⟨Nat.le_refl _, by simp, ?_⟩
        simp only [Nat.sub_self, List.getElem_cons_zero]
        omega
      · exact go h
    · exact go h
theorem queFrom_at {s : St} {nd : List UInt8} {r : Nat × Nat} : ∀ {l : List (List UInt8)}, queFrom s nd l = some r → ∃ h : r.1 < s.apps.length, r.2 < s.apps[r.1].asks.length
  | [], h => by cases h
  | q :: t, h => by
    rw [queFrom] at h
    split at h
    · rename_i r' hr
      cases h
      obtain ⟨_, h2, h3⟩ := appFrom_at hr
      simp only [Nat.sub_zero] at h2 h3
      exact ⟨h2, h3⟩
    · exact queFrom_at h
theorem pick_at {s : St} {nd : List UInt8} {r : Nat × Nat} (h : pickV s nd = some r) : ∃ h : r.1 < s.apps.length, r.2 < s.apps[r.1].asks.length := queFrom_at h
/-- a right state's containers ascend -/
theorem conts_above {apps : List Appl} {ms : List Mac} : ∀ (cs : List Con) (last : Int), contsS apps ms last cs = true → ∀ c ∈ cs, last < c.id
  | [], _, _, _, h => by cases h
  | c :: t, last, h, c', hc => by
    rw [contsS] at h
    simp only [Bool.and_eq_true, decide_eq_true_eq] at h
    rcases List.mem_cons.1 hc with rfl | hc
    · exact h.1
    · have := conts_above t c.id h.2.2.2.2.2 c' hc
      omega
theorem conts_asc {apps : List Appl} {ms : List Mac} : ∀ (cs : List Con) (last : Int), contsS apps ms last cs = true → AscC cs
  | [], _, _ => fun i j hi => absurd hi (by simp)
  | c :: t, last, h => by
    rw [contsS] at h
    simp only [Bool.and_eq_true, decide_eq_true_eq] at h
    have h1 := conts_above t c.id h.2.2.2.2.2
    have h2 := conts_asc t c.id h.2.2.2.2.2
    intro i j hi hj hij
    match i, j with
    | _, 0 => omega
    | 0, j + 1 =>
      simp only [List.getElem_cons_zero, List.getElem_cons_succ]
      exact h1 _ (List.getElem_mem _)
    | i + 1, j + 1 =>
      simp only [List.getElem_cons_succ]
      exact h2 i j (by simpa using hi) (by simpa using hj) (by omega)
theorem ok_asc {s : St} (h : stateOkV s = true) : AscC s.cs ∧ (0 ≤ s.epoch ∧ s.epoch ≤ 1000000000) ∧ (0 ≤ s.serial ∧ s.serial ≤ 1000000000) := by
  rw [stateOkV, stateOkS] at h
  simp only [Bool.and_eq_true, inB, decide_eq_true_eq] at h
  exact ⟨conts_asc _ _ h.2.2.2.2.2.2.2.2, by omega, by omega⟩

/-- the container of an ask -/
def grantC (s : St) (nd : List UInt8) (r : Nat × Nat) : Con :=
  match s.apps[r.1]? with
  | some a => (match a.asks[r.2]? with | some k => ⟨idV s, a.id, nd, k.mem, k.cpu⟩ | none => ⟨0, 0, [], 0, 0⟩)
  | none => ⟨0, 0, [], 0, 0⟩
theorem grantC_at {s : St} {nd : List UInt8} {r : Nat × Nat} (h1 : r.1 < s.apps.length) (h2 : r.2 < s.apps[r.1].asks.length) : grantC s nd r = ⟨idV s, s.apps[r.1].id, nd, s.apps[r.1].asks[r.2].mem, s.apps[r.1].asks[r.2].cpu⟩ := by
  rw [grantC, List.getElem?_eq_getElem h1]
  simp only
  rw [List.getElem?_eq_getElem h2]
/-- whether one may be given at all -/
def mayV (s : St) (nd : List UInt8) : Bool := (findM nd s.ms).isSome && (decide (s.cs.length < 150) && freeIdV s)
/-- the ask and the container of a right state -/
def nextV (s : St) (nd : List UInt8) : Option ((Nat × Nat) × Con) := if mayV s nd = true then (pickV s nd).map fun r => (r, grantC s nd r) else none
/-- of any state -/
def nextGV (s : St) (nd : List UInt8) : Option ((Nat × Nat) × Con) := if stateOkV s = true then nextV s nd else none
def conOf : Option ((Nat × Nat) × Con) → Con
  | some r => r.2
  | none => ⟨0, 0, [], 0, 0⟩
end Go.Proofs.YtfbphoppgmganaaGreat
