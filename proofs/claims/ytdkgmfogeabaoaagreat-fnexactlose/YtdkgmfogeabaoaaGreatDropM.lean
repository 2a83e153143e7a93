/-
  A right state without an application or a machine, in plain words: the model's way and the program's are one.
-/
import Derived.Test.YtdkgmfogeabaoaaGreatTakS
namespace Go.Proofs.YtdkgmfogeabaoaaGreat
open Go.RowKit
set_option linter.unusedVariables false

theorem conts_pair {apps : List Appl} {ms : List Mac} : ∀ (cs : List Con) (last : Int), contsS apps ms last cs = true → (∀ c ∈ cs, last < c.id ∧ (findAp c.app apps).isSome = true ∧ (findM c.node ms).isSome = true) ∧ cs.Pairwise (fun a b => a.id < b.id)
  | [], last, _ => ⟨fun c h => absurd h (by simp), .nil⟩
  | c :: t, last, h => by
    simp only [contsS, Bool.and_eq_true, decide_eq_true_eq] at h
    obtain ⟨h1, _, h3, h4, _, h6⟩ := h
    obtain ⟨i1, i2⟩ := conts_pair t c.id h6
    refine ⟨fun d hd => ?_, List.pairwise_cons.2 ⟨fun d hd => (i1 d hd).1, i2⟩⟩
    rcases List.mem_cons.1 hd with rfl | hd
    · exact ⟨h1, h3, h4⟩
    · exact ⟨by have := (i1 d hd).1; omega, (i1 d hd).2⟩
theorem apps_pair {qs : List Q} {nx : Int} : ∀ (l : List Appl) (last : Int), appsFrom qs nx last l = true → (∀ a ∈ l, last < a.id) ∧ l.Pairwise (fun a b => a.id ≠ b.id)
  | [], last, _ => ⟨fun c h => absurd h (by simp), .nil⟩
  | a :: t, last, h => by
    simp only [appsFrom, Bool.and_eq_true, decide_eq_true_eq] at h
    obtain ⟨h1, _, _, _, h5⟩ := h
    obtain ⟨i1, i2⟩ := apps_pair t a.id h5
    refine ⟨fun d hd => ?_, List.pairwise_cons.2 ⟨fun d hd => by have := i1 d hd; omega, i2⟩⟩
    rcases List.mem_cons.1 hd with rfl | hd
    · exact h1
    · have := i1 d hd; omega
theorem machs_pair {ck : Int} : ∀ (l : List Mac) (last : List UInt8), machsFrom ck last l = true → l.Pairwise (fun a b => a.name ≠ b.name)
  | [], last, _ => .nil
  | m :: t, last, h => by
    have h' := h
    simp only [machsFrom, Bool.and_eq_true, decide_eq_true_eq] at h
    obtain ⟨_, _, _, _, h5⟩ := h
    refine List.pairwise_cons.2 ⟨fun d hd e => ?_, machs_pair t m.name h5⟩
    have := machs_above t m.name h5 d hd
    rw [e, bl_irr] at this
    exact absurd this (by simp)
/-- the one of that word is taken out -/
theorem erase_filter {α β : Type} [DecidableEq β] (f : α → β) (v : β) : ∀ (l : List α) (j : Nat) (h : j < l.length), l.Pairwise (fun a b => f a ≠ f b) → f l[j] = v → l.eraseIdx j = l.filter (fun a => !decide (f a = v))
  | a :: t, 0, _, hp, e => by
    have hp' := List.pairwise_cons.1 hp
    simp only [List.getElem_cons_zero] at e
    rw [List.eraseIdx_cons_zero, List.filter_cons_of_neg (by simp [e])]
    symm
    rw [List.filter_eq_self]
    intro b hb
    simp
    exact fun h => hp'.1 b hb (e.trans h.symm)
  | a :: t, j + 1, h, hp, e => by
    have hp' := List.pairwise_cons.1 hp
    simp only [List.getElem_cons_succ] at e
    have hj : j < t.length := by simpa using h
    rw [List.eraseIdx_cons_succ, erase_filter f v t j hj hp'.2 e, List.filter_cons_of_pos]
    simp
    exact fun h => hp'.1 t[j] (List.getElem_mem hj) (h.trans e.symm)
theorem filter_none {α β : Type} [DecidableEq β] (f : α → β) (v : β) (l : List α) (h : l.find? (fun a => decide (f a = v)) = none) : l.filter (fun a => !decide (f a = v)) = l ∧ l.filter (fun a => decide (f a = v)) = [] := by
  rw [List.find?_eq_none] at h
  refine ⟨?_, ?_⟩
  · rw [List.filter_eq_self]
    intro a ha
    simpa using h a ha
  · rw [List.filter_eq_nil_iff]
    exact h
/-- of those that some word holds of, by their numbers -/
theorem ids_filter (p : Con → Bool) (cs : List Con) (hp : cs.Pairwise (fun a b => a.id < b.id)) : ∀ c ∈ cs, hasI c.id ((cs.filter p).map (fun c => c.id)) = p c := by
  intro c hc
  by_cases h : p c = true
  · rw [h, hasI_iff]
    exact List.mem_map.2 ⟨c, List.mem_filter.2 ⟨hc, h⟩, rfl⟩
  · have h' : p c = false := by simpa using h
    rw [h', ← Bool.not_eq_true, hasI_iff, List.mem_map]
    rintro ⟨d, hd, e⟩
    obtain ⟨hd1, hd2⟩ := List.mem_filter.1 hd
    have : d = c := by
      obtain ⟨i, hi, rfl⟩ := List.getElem_of_mem hc
      obtain ⟨j, hj, rfl⟩ := List.getElem_of_mem hd1
      have hpw := List.pairwise_iff_getElem.1 hp
      rcases Nat.lt_trichotomy i j with hij | hij | hij
      · have := hpw i j hi hj hij; omega
      · subst hij; rfl
      · have := hpw j i hj hi hij; omega
    rw [this] at hd2
    exact h hd2
theorem okParts {s : St} (h : stateOkV s = true) : s.cs.Pairwise (fun a b => a.id < b.id) ∧ (∀ c ∈ s.cs, (findAp c.app s.apps).isSome = true ∧ (findM c.node s.ms).isSome = true) ∧ s.apps.Pairwise (fun a b => a.id ≠ b.id) ∧ s.ms.Pairwise (fun a b => a.name ≠ b.name) := by
  simp only [stateOkV, stateOkS, Bool.and_eq_true, appsOkV, machsOkS] at h
  obtain ⟨_, _, _, _, _, ⟨_, h6⟩, ⟨h7, _⟩, _, h9⟩ := h
  obtain ⟨c1, c2⟩ := conts_pair _ _ h9
  exact ⟨c2, fun c hc => (c1 c hc).2, (apps_pair _ _ h6).2, machs_pair _ _ ((machsS_iff _ _).1 h7).1⟩
/-- the numbers of an application's containers -/
def idsOf (p : Con → Bool) (cs : List Con) : List Int := (cs.filter p).map (fun c => c.id)
theorem take_ids {s : St} (h : stateOkV s = true) (p : Con → Bool) : takeV s (idsOf p s.cs) = (⟨s.qs, s.clock, s.epoch, s.next, s.serial, s.apps, s.ms, s.cs.filter (fun q => !p q)⟩, s.cs.filter p) := by
  have hp := ids_filter p s.cs (okParts h).1
  rw [(takeV_eq s _).1 h]
  have e1 : s.cs.filter (fun q => hasI q.id (idsOf p s.cs)) = s.cs.filter p := List.filter_congr hp
  have e2 : s.cs.filter (fun q => !hasI q.id (idsOf p s.cs)) = s.cs.filter (fun q => !p q) := List.filter_congr (fun c hc => by rw [idsOf, hp c hc])
  rw [e1, e2]
theorem drop_none {s : St} {app : Int} (h : stateOkV s = true) (hn : apAt s.apps app < 0) : dropV s app = (s, []) := by
  rcases apAt_find app s.apps with ⟨h1, _⟩ | ⟨j, hj, _, h2⟩
  · rw [(dropV_eq s app).1 h]
    have e1 := (filter_none (fun a : Appl => a.id) app s.apps h1).1
    have hc : ∀ c ∈ s.cs, ¬ c.app = app := fun c hc e => by
      have := ((okParts h).2.1 c hc).1
      rw [e, h1] at this
      exact absurd this (by simp)
    have e2 : s.cs.filter (fun q => !decide (q.app = app)) = s.cs := List.filter_eq_self.2 (fun c hx => by simpa using hc c hx)
    have e3 : s.cs.filter (fun q => decide (q.app = app)) = [] := List.filter_eq_nil_iff.2 (fun c hx => by simpa using hc c hx)
    rw [e1, e2, e3]
  · omega
theorem drop_some {s : St} {app : Int} (h : stateOkV s = true) {j : Nat} (hn : apAt s.apps app = (j : Int)) : j < s.apps.length ∧ dropV s app = (⟨s.qs, s.clock, s.epoch, s.next, s.serial, s.apps.eraseIdx j, s.ms, (takeV s (idsOf (fun q => decide (q.app = app)) s.cs)).1.cs⟩, (takeV s (idsOf (fun q => decide (q.app = app)) s.cs)).2) := by
  rcases apAt_find app s.apps with ⟨_, h1⟩ | ⟨i, hi, h1, h2⟩
  · omega
  · obtain rfl : i = j := by omega
    refine ⟨hi, ?_⟩
    have hid : s.apps[i].id = app := by simpa using List.find?_some h1
    rw [(dropV_eq s app).1 h, take_ids h, erase_filter (fun a : Appl => a.id) app s.apps i hi (okParts h).2.2.1 hid]
theorem lose_none {s : St} {nm : List UInt8} (h : stateOkV s = true) (hn : macAt s.ms nm < 0) : loseV s nm = (s, []) := by
  rcases macAt_find nm s.ms with ⟨h1, _⟩ | ⟨j, hj, _, h2⟩
  · rw [(loseV_eq s nm).1 h]
    have e1 := (filter_none (fun a : Mac => a.name) nm s.ms h1).1
    have hc : ∀ c ∈ s.cs, ¬ c.node = nm := fun c hc e => by
      have := ((okParts h).2.1 c hc).2
      rw [e, h1] at this
      exact absurd this (by simp)
    have e2 : s.cs.filter (fun q => !decide (q.node = nm)) = s.cs := List.filter_eq_self.2 (fun c hx => by simpa using hc c hx)
    have e3 : s.cs.filter (fun q => decide (q.node = nm)) = [] := List.filter_eq_nil_iff.2 (fun c hx => by simpa using hc c hx)
    rw [e1, e2, e3]
  · omega
theorem lose_some {s : St} {nm : List UInt8} (h : stateOkV s = true) {j : Nat} (hn : macAt s.ms nm = (j : Int)) : j < s.ms.length ∧ loseV s nm = (⟨s.qs, s.clock, s.epoch, s.next, s.serial, s.apps, s.ms.eraseIdx j, (takeV s (idsOf (fun q => decide (q.node = nm)) s.cs)).1.cs⟩, (takeV s (idsOf (fun q => decide (q.node = nm)) s.cs)).2) := by
  rcases macAt_find nm s.ms with ⟨_, h1⟩ | ⟨i, hi, h1, h2⟩
  · omega
  · obtain rfl : i = j := by omega
    refine ⟨hi, ?_⟩
    have hid : s.ms[i].name = nm := by simpa using List.find?_some h1
    rw [(loseV_eq s nm).1 h, take_ids h, erase_filter (fun a : Mac => a.name) nm s.ms i hi (okParts h).2.2.2 hid]
end Go.Proofs.YtdkgmfogeabaoaaGreat
