/-
  Several texts of this claim in one: DropM, TkMat, AppOfB, TkEnd, SameW (pack.py put them together); each says in its own remark what is proved.
-/
import Derived.Test.YtbkchepelhkjlaaGreatTakS
import Derived.Test.YtbkchepelhkjlaaGreatPackK
import Derived.Test.YtbkchepelhkjlaaGreatPackE
import Derived.Test.YtbkchepelhkjlaaGreatPackO
import Derived.Test.YtbkchepelhkjlaaGreatPackB
import Derived.Test.YtbkchepelhkjlaaGreatPackL
import Derived.Test.YtbkchepelhkjlaaGreatPackU
import Derived.Test.YtbkchepelhkjlaaGreatPackR
import Derived.Deep.RegionHeld3
/-
 A right state without an application or a machine, in plain words: the model's way and the program's are one.
-/
namespace Go.Proofs.YtbkchepelhkjlaaGreat
open Go.RowKit
set_option linter.unusedVariables false
theorem conts_pair {apps : List Appl} {ms : List Mac} : ∀ (cs : List Con) (last : Int), contsS apps ms last cs = true → (∀ c ∈ cs, last < c.id ∧ (findAp c.app apps).isSome = true ∧ (findM c.node ms).isSome = true) ∧ cs.Pairwise (fun a b => a.id < b.id)
 | [], last, _ => ⟨fun c h => absurd h (by simp), .nil⟩
 | c :: t, last, h => by
  simp only [contsS, Bool.and_eq_true, decide_eq_true_eq] at h
  obtain ⟨h1, _, h3, h4, _, h6⟩ := h
  obtain ⟨i1, i2⟩ := conts_pair t c.id h6
  refine ⟨fun d hd => ?_, List.pairwise_cons.2 ⟨fun d hd => (i1 d hd).1, i2⟩⟩
  rcases List.mem_cons.1 hd with rfl | hd
  ·exact ⟨h1, h3, h4⟩
  ·exact ⟨by have := (i1 d hd).1; omega, (i1 d hd).2⟩
theorem apps_pair {qs : List Q} {nx : Int} : ∀ (l : List Appl) (last : Int), appsFrom qs nx last l = true → (∀ a ∈ l, last < a.id) ∧ l.Pairwise (fun a b => a.id ≠ b.id)
 | [], last, _ => ⟨fun c h => absurd h (by simp), .nil⟩
 | a :: t, last, h => by
  simp only [appsFrom, Bool.and_eq_true, decide_eq_true_eq] at h
  obtain ⟨h1, _, _, _, h5⟩ := h
  obtain ⟨i1, i2⟩ := apps_pair t a.id h5
  refine ⟨fun d hd => ?_, List.pairwise_cons.2 ⟨fun d hd => by have := i1 d hd; omega, i2⟩⟩
  rcases List.mem_cons.1 hd with rfl | hd
  ·exact h1
  ·have := i1 d hd; omega
theorem machs_pair {ck : Int} : ∀ (l : List Mac) (last : List UInt8), machsFrom ck last l = true → l.Pairwise (fun a b => a.name ≠ b.name)
 | [], last, _ => .nil
 | m :: t, last, h => by
  have h' := h
  simp only [machsFrom, Bool.and_eq_true, decide_eq_true_eq] at h
  obtain ⟨_, _, _, _, h5⟩ := h
  refine List.pairwise_cons.2 ⟨fun d hd e => ?_, machs_pair t m.name h5⟩
  have := machs_above t m.name h5 d hd
  rw [e, bl_irr] at this
  exact absurd this (by simp)
/-- the one of that word is taken out -/
theorem erase_filter {α β : Type} [DecidableEq β] (f : α → β) (v : β) : ∀ (l : List α) (j : Nat) (h : j < l.length), l.Pairwise (fun a b => f a ≠ f b) → f l[j] = v → l.eraseIdx j = l.filter (fun a => !decide (f a = v))
 | a :: t, 0, _, hp, e => by
  have hp' := List.pairwise_cons.1 hp
  simp only [List.getElem_cons_zero] at e
  rw [List.eraseIdx_cons_zero, List.filter_cons_of_neg (by simp [e])]
  symm
  rw [List.filter_eq_self]
  intro b hb
  simp
  exact fun h => hp'.1 b hb (e.trans h.symm)
 | a :: t, j + 1, h, hp, e => by
  have hp' := List.pairwise_cons.1 hp
  simp only [List.getElem_cons_succ] at e
  have hj : j < t.length := by simpa using h
  rw [List.eraseIdx_cons_succ, erase_filter f v t j hj hp'.2 e, List.filter_cons_of_pos]
  simp
  exact fun h => hp'.1 t[j] (List.getElem_mem hj) (h.trans e.symm)
theorem filter_none {α β : Type} [DecidableEq β] (f : α → β) (v : β) (l : List α) (h : l.find? (fun a => decide (f a = v)) = none) : l.filter (fun a => !decide (f a = v)) = l ∧ l.filter (fun a => decide (f a = v)) = [] := by
 rw [List.find?_eq_none] at h
 refine ⟨?_, ?_⟩
 ·rw [List.filter_eq_self]
  intro a ha
  simpa using h a ha
 ·rw [List.filter_eq_nil_iff]
  exact h
/-- of those that some word holds of, by their numbers -/
theorem ids_filter (p : Con → Bool) (cs : List Con) (hp : cs.Pairwise (fun a b => a.id < b.id)) : ∀ c ∈ cs, hasI c.id ((cs.filter p).map (fun c => c.id)) = p c := by
 intro c hc
 by_cases h : p c = true
 ·rw [h, hasI_iff]
  exact List.mem_map.2 ⟨c, List.mem_filter.2 ⟨hc, h⟩, rfl⟩
 ·have h' : p c = false := by simpa using h
  rw [h', ← Bool.not_eq_true, hasI_iff, List.mem_map]
  rintro ⟨d, hd, e⟩
  obtain ⟨hd1, hd2⟩ := List.mem_filter.1 hd
  have : d = c := by
   obtain ⟨i, hi, rfl⟩ := List.getElem_of_mem hc
   obtain ⟨j, hj, rfl⟩ := List.getElem_of_mem hd1
   have hpw := List.pairwise_iff_getElem.1 hp
   rcases Nat.lt_trichotomy i j with hij | hij | hij
   ·have := hpw i j hi hj hij; omega
   ·subst hij; rfl
   ·have := hpw j i hj hi hij; omega
  rw [this] at hd2
  exact h hd2
theorem okParts {s : St} (h : stateOkV s = true) : s.cs.Pairwise (fun a b => a.id < b.id) ∧ (∀ c ∈ s.cs, (findAp c.app s.apps).isSome = true ∧ (findM c.node s.ms).isSome = true) ∧ s.apps.Pairwise (fun a b => a.id ≠ b.id) ∧ s.ms.Pairwise (fun a b => a.name ≠ b.name) := by
 simp only [stateOkV, stateOkS, Bool.and_eq_true, appsOkV, machsOkS] at h
 obtain ⟨_, _, _, _, _, ⟨_, h6⟩, ⟨h7, _⟩, _, h9⟩ := h
 obtain ⟨c1, c2⟩ := conts_pair _ _ h9
 exact ⟨c2, fun c hc => (c1 c hc).2, (apps_pair _ _ h6).2, machs_pair _ _ ((machsS_iff _ _).1 h7).1⟩
/-- the numbers of an application's containers -/
def idsOf (p : Con → Bool) (cs : List Con) : List Int := (cs.filter p).map (fun c => c.id)
theorem take_ids {s : St} (h : stateOkV s = true) (p : Con → Bool) : takeV s (idsOf p s.cs) = (⟨s.qs, s.clock, s.epoch, s.next, s.serial, s.apps, s.ms, s.cs.filter (fun q => !p q)⟩, s.cs.filter p) := by
 have hp := ids_filter p s.cs (okParts h).1
 rw [(takeV_eq s _).1 h]
 have e1 : s.cs.filter (fun q => hasI q.id (idsOf p s.cs)) = s.cs.filter p := List.filter_congr hp
 have e2 : s.cs.filter (fun q => !hasI q.id (idsOf p s.cs)) = s.cs.filter (fun q => !p q) := List.filter_congr (fun c hc => by rw [idsOf, hp c hc])
 rw [e1, e2]
theorem drop_none {s : St} {app : Int} (h : stateOkV s = true) (hn : apAt s.apps app < 0) : dropV s app = (s, []) := by
 rcases apAt_find app s.apps with ⟨h1, _⟩ | ⟨j, hj, _, h2⟩
 ·rw [(dropV_eq s app).1 h]
  have e1 := (filter_none (fun a : Appl => a.id) app s.apps h1).1
  have hc : ∀ c ∈ s.cs, ¬ c.app = app := fun c hc e => by
   have := ((okParts h).2.1 c hc).1
   rw [e, h1] at this
   exact absurd this (by simp)
  have e2 : s.cs.filter (fun q => !decide (q.app = app)) = s.cs := List.filter_eq_self.2 (fun c hx => by simpa using hc c hx)
  have e3 : s.cs.filter (fun q => decide (q.app = app)) = [] := List.filter_eq_nil_iff.2 (fun c hx => by simpa using hc c hx)
  rw [e1, e2, e3]
 ·omega
theorem drop_some {s : St} {app : Int} (h : stateOkV s = true) {j : Nat} (hn : apAt s.apps app = (j : Int)) : j < s.apps.length ∧ dropV s app = (⟨s.qs, s.clock, s.epoch, s.next, s.serial, s.apps.eraseIdx j, s.ms, (takeV s (idsOf (fun q => decide (q.app = app)) s.cs)).1.cs⟩, (takeV s (idsOf (fun q => decide (q.app = app)) s.cs)).2) := by
 rcases apAt_find app s.apps with ⟨_, h1⟩ | ⟨i, hi, h1, h2⟩
 ·omega
 ·obtain rfl : i = j := by omega
  refine ⟨hi, ?_⟩
  have hid : s.apps[i].id = app := by simpa using List.find?_some h1
  rw [(dropV_eq s app).1 h, take_ids h, erase_filter (fun a : Appl => a.id) app s.apps i hi (okParts h).2.2.1 hid]
theorem lose_none {s : St} {nm : List UInt8} (h : stateOkV s = true) (hn : macAt s.ms nm < 0) : loseV s nm = (s, []) := by
 rcases macAt_find nm s.ms with ⟨h1, _⟩ | ⟨j, hj, _, h2⟩
 ·rw [(loseV_eq s nm).1 h]
  have e1 := (filter_none (fun a : Mac => a.name) nm s.ms h1).1
  have hc : ∀ c ∈ s.cs, ¬ c.node = nm := fun c hc e => by
   have := ((okParts h).2.1 c hc).2
   rw [e, h1] at this
   exact absurd this (by simp)
  have e2 : s.cs.filter (fun q => !decide (q.node = nm)) = s.cs := List.filter_eq_self.2 (fun c hx => by simpa using hc c hx)
  have e3 : s.cs.filter (fun q => decide (q.node = nm)) = [] := List.filter_eq_nil_iff.2 (fun c hx => by simpa using hc c hx)
  rw [e1, e2, e3]
 ·omega
theorem lose_some {s : St} {nm : List UInt8} (h : stateOkV s = true) {j : Nat} (hn : macAt s.ms nm = (j : Int)) : j < s.ms.length ∧ loseV s nm = (⟨s.qs, s.clock, s.epoch, s.next, s.serial, s.apps, s.ms.eraseIdx j, (takeV s (idsOf (fun q => decide (q.node = nm)) s.cs)).1.cs⟩, (takeV s (idsOf (fun q => decide (q.node = nm)) s.cs)).2) := by
 rcases macAt_find nm s.ms with ⟨_, h1⟩ | ⟨i, hi, h1, h2⟩
 ·omega
 ·obtain rfl : i = j := by omega
  refine ⟨hi, ?_⟩
  have hid : s.ms[i].name = nm := by simpa using List.find?_some h1
  rw [(loseV_eq s nm).1 h, take_ids h, erase_filter (fun a : Mac => a.name) nm s.ms i hi (okParts h).2.2.2 hid]
end Go.Proofs.YtbkchepelhkjlaaGreat

/-
 A right state stays right without some of its containers, applications and machines: plain words.
-/
namespace Go.Proofs.YtbkchepelhkjlaaGreat
open Go.RowKit
set_option linter.unusedVariables false
theorem apps_sub {qs : List Q} {nx : Int} (p : Appl → Bool) : ∀ (l : List Appl) (last last' : Int), last' ≤ last → appsFrom qs nx last l = true → appsFrom qs nx last' (l.filter p) = true
 | [], _, _, _, _ => rfl
 | a :: t, last, last', hl, h => by
  simp only [appsFrom, Bool.and_eq_true, decide_eq_true_eq] at h
  obtain ⟨h1, h2, h3, h4, h5⟩ := h
  by_cases hp : p a = true
  ·rw [List.filter_cons_of_pos hp]
   simp only [appsFrom, Bool.and_eq_true, decide_eq_true_eq]
   exact ⟨by omega, h2, h3, h4, apps_sub p t a.id a.id (Int.le_refl _) h5⟩
  ·rw [List.filter_cons_of_neg hp]
   exact apps_sub p t a.id last' (by omega) h5
theorem conts_sub {apps apps' : List Appl} {ms ms' : List Mac} (p : Con → Bool) : ∀ (l : List Con) (last last' : Int), last' ≤ last → (∀ c ∈ l, p c = true → (findAp c.app apps').isSome = true ∧ (findM c.node ms').isSome = true) → contsS apps ms last l = true → contsS apps' ms' last' (l.filter p) = true
 | [], _, _, _, _, _ => rfl
 | a :: t, last, last', hl, hk, h => by
  simp only [contsS, Bool.and_eq_true, decide_eq_true_eq] at h
  obtain ⟨h1, h2, h3, h4, h5, h6⟩ := h
  have hk' : ∀ c ∈ t, p c = true → (findAp c.app apps').isSome = true ∧ (findM c.node ms').isSome = true := fun c hc => hk c (by simp [hc])
  by_cases hp : p a = true
  ·rw [List.filter_cons_of_pos hp]
   simp only [contsS, Bool.and_eq_true, decide_eq_true_eq]
   exact ⟨by omega, h2, (hk a (by simp) hp).1, (hk a (by simp) hp).2, h5, conts_sub p t a.id a.id (Int.le_refl _) hk' h6⟩
  ·rw [List.filter_cons_of_neg hp]
   exact conts_sub p t a.id last' (by omega) hk' h6
theorem machs_sub {ck : Int} (p : Mac → Bool) : ∀ (l : List Mac) (last last' : List UInt8), (∀ m ∈ l, Op.bytesLess (bs last').toList (bs m.name).toList = true) → machsFrom ck last l = true → machsFrom ck last' (l.filter p) = true
 | [], _, _, _, _ => rfl
 | a :: t, last, last', hl, h => by
  have hab := machs_above (a :: t) last h
  simp only [machsFrom, Bool.and_eq_true, decide_eq_true_eq] at h
  obtain ⟨h1, h2, h3, h4, h5⟩ := h
  have ht := machs_above t a.name h5
  by_cases hp : p a = true
  ·rw [List.filter_cons_of_pos hp]
   simp only [machsFrom, Bool.and_eq_true, decide_eq_true_eq]
   refine ⟨?_, h2, h3, h4, machs_sub p t a.name a.name ht h5⟩
   have h6 := hl a (by simp)
   have h7 : leT a.name last' = false := by
    unfold leT
    rw [Bool.or_eq_false_iff]
    refine ⟨?_, ?_⟩
    ·cases h8 : Op.bytesLess (bs a.name).toList (bs last').toList with
     | false => rfl
     | true => have := bl_trans _ _ _ h6 h8; rw [bl_irr] at this; cases this
    ·cases h8 : ((bs a.name).toList == (bs last').toList) with
     | false => rfl
     | true => rw [eq_of_beq h8, bl_irr] at h6; cases h6
   rw [h7]; rfl
  ·rw [List.filter_cons_of_neg hp]
   exact machs_sub p t a.name last' (fun m hm => hl m (by simp [hm])) h5
/-- fewer amounts sum up, too, and to no more -/
theorem sum_sub : ∀ {l m : List (Int × Int)}, m.Sublist l → ∀ (x y x' y' : Int), resOk x' y' = true → x' ≤ x → y' ≤ y → (sumFrom l x y).2.2 = true → (sumFrom m x' y').2.2 = true ∧ (sumFrom m x' y').1 ≤ (sumFrom l x y).1 ∧ (sumFrom m x' y').2.1 ≤ (sumFrom l x y).2.1
 | _, _, .slnil, x, y, x', y', hr, hx, hy, h => ⟨rfl, hx, hy⟩
 | r :: l, m, .cons _ hs, x, y, x', y', hr, hx, hy, h => by
  rw [sumFrom] at h ⊢
  by_cases hb : bothOk 1 x y r.1 r.2 = true
  ·rw [if_pos hb] at h ⊢
   simp only [bothOk, Bool.and_eq_true] at hb
   have b1 := resOk_bd hb.1.2
   exact sum_sub hs (x + 1 * r.1) (y + 1 * r.2) x' y' hr (by omega) (by omega) h
  ·rw [if_neg hb] at h; cases h
 | r :: l, _ :: m, .cons_cons _ hs, x, y, x', y', hr, hx, hy, h => by
  rw [sumFrom] at h
  by_cases hb : bothOk 1 x y r.1 r.2 = true
  ·rw [if_pos hb] at h
   have hbb := hb
   simp only [bothOk, Bool.and_eq_true] at hb
   have b1 := resOk_bd hb.1.2
   have b2 := resOk_bd hb.2
   have b3 := resOk_bd hr
   have hr2 : resOk (x' + 1 * r.1) (y' + 1 * r.2) = true := by simp only [resOk, inB, Bool.and_eq_true, decide_eq_true_eq]; omega
   have hb' : bothOk 1 x' y' r.1 r.2 = true := by simp only [bothOk, hr, hb.1.2, hr2, Bool.and_self]
   rw [sumFrom, sumFrom, if_pos hbb, if_pos hb']
   exact sum_sub hs (x + 1 * r.1) (y + 1 * r.2) (x' + 1 * r.1) (y' + 1 * r.2) hr2 (by omega) (by omega) h
  ·rw [if_neg hb] at h; cases h
theorem hold_sub {cs cs' : List Con} {m : Mac} (hs : cs'.Sublist cs) (h : holdM cs m = true) : holdM cs' m = true := by
 have hu : (usedL (fun q => decide (q.node = m.name)) cs').Sublist (usedL (fun q => decide (q.node = m.name)) cs) := (hs.filter _).map _
 simp only [holdM, Bool.and_eq_true, sumR] at h ⊢
 obtain ⟨h1, h2, h3⟩ := h
 obtain ⟨k1, k2, k3⟩ := sum_sub hu 0 0 0 0 (by decide) (Int.le_refl _) (Int.le_refl _) h2
 simp only [within, Bool.and_eq_true, decide_eq_true_eq] at h3 ⊢
 exact ⟨h1, k1, ⟨⟨okSum _ _ _ (by decide), h3.1.1.2⟩, by omega⟩, by omega⟩
/-- without some containers, applications and machines, if those that stay have theirs -/
theorem sub_ok {s : St} (h : stateOkV s = true) (pa : Appl → Bool) (pm : Mac → Bool) (pc : Con → Bool) (hk : ∀ c ∈ s.cs, pc c = true → (findAp c.app (s.apps.filter pa)).isSome = true ∧ (findM c.node (s.ms.filter pm)).isSome = true) :
  stateOkV ⟨s.qs, s.clock, s.epoch, s.next, s.serial, s.apps.filter pa, s.ms.filter pm, s.cs.filter pc⟩ = true := by
 simp only [stateOkV, stateOkS, Bool.and_eq_true, appsOkV, machsOkS, decide_eq_true_eq] at h ⊢
 obtain ⟨h1, h2, h3, h4, h5, ⟨h6, h7⟩, ⟨h8, h9, h10⟩, h11, h12⟩ := h
 obtain ⟨m1, m2⟩ := (machsS_iff _ _).1 h8
 refine ⟨h1, h2, h3, h4, h5, ⟨Nat.le_trans (List.length_filter_le _ _) h6, apps_sub pa _ 0 0 (Int.le_refl _) h7⟩, ⟨(machsS_iff _ _).2 ⟨machs_sub pm _ [] [] (machs_above _ _ m1) m1, fun m hm => hold_sub List.filter_sublist (m2 m (List.mem_filter.1 hm).1)⟩, ?_, Nat.le_trans (List.length_filter_le _ _) h10⟩, Nat.le_trans (List.length_filter_le _ _) h11, conts_sub pc _ 0 0 (Int.le_refl _) hk h12⟩
 exact (sum_sub (List.filter_sublist.map _) 0 0 0 0 (by decide) (Int.le_refl _) (Int.le_refl _) h9).1
theorem filter_id {α : Type} (l : List α) : l.filter (fun _ => true) = l := List.filter_eq_self.2 (fun _ _ => rfl)
theorem take_ok {s : St} (h : stateOkV s = true) (ids : List Int) : stateOkV (takeV s ids).1 = true := by
 rw [(takeV_eq s ids).1 h]
 have := sub_ok h (fun _ => true) (fun _ => true) (fun q => !hasI q.id ids) (fun c hc _ => by rw [filter_id, filter_id]; exact (okParts h).2.1 c hc)
 rwa [filter_id, filter_id] at this
theorem drop_ok {s : St} (h : stateOkV s = true) (app : Int) : stateOkV (dropV s app).1 = true := by
 rw [(dropV_eq s app).1 h]
 have := sub_ok h (fun a => !decide (a.id = app)) (fun _ => true) (fun q => !decide (q.app = app)) (fun c hc hp => by
  rw [filter_id]
  refine ⟨?_, ((okParts h).2.1 c hc).2⟩
  have h1 := ((okParts h).2.1 c hc).1
  unfold findAp at h1 ⊢
  rw [List.find?_isSome] at h1 ⊢
  obtain ⟨a, ha, he⟩ := h1
  refine ⟨a, List.mem_filter.2 ⟨ha, ?_⟩, he⟩
  have he' : a.id = c.app := by simpa using he
  simpa [he'] using hp)
 rwa [filter_id] at this
theorem lose_ok {s : St} (h : stateOkV s = true) (nm : List UInt8) : stateOkV (loseV s nm).1 = true := by
 rw [(loseV_eq s nm).1 h]
 have := sub_ok h (fun _ => true) (fun m => !decide (m.name = nm)) (fun q => !decide (q.node = nm)) (fun c hc hp => by
  rw [filter_id]
  refine ⟨((okParts h).2.1 c hc).1, ?_⟩
  have h1 := ((okParts h).2.1 c hc).2
  unfold findM at h1 ⊢
  rw [List.find?_isSome] at h1 ⊢
  obtain ⟨a, ha, he⟩ := h1
  refine ⟨a, List.mem_filter.2 ⟨ha, ?_⟩, he⟩
  have he' : a.name = c.node := by simpa using he
  simpa [he'] using hp)
 rwa [filter_id] at this
theorem filt_len {α : Type} (p : α → Bool) (l : List α) : (l.filter (fun x => !p x)).length + (l.filter p).length = l.length := by
 induction l with
 | nil => rfl
 | cons a t ih => cases hp : p a <;> simp [hp] <;> omega
theorem take_len {s : St} (h : stateOkV s = true) (ids : List Int) : (takeV s ids).1.cs.length + (takeV s ids).2.length = s.cs.length := by
 rw [(takeV_eq s ids).1 h]; exact filt_len (fun q : Con => hasI q.id ids) s.cs
theorem lose_len {s : St} (h : stateOkV s = true) (nm : List UInt8) : (loseV s nm).1.cs.length + (loseV s nm).2.length = s.cs.length := by
 rw [(loseV_eq s nm).1 h]; exact filt_len (fun q : Con => decide (q.node = nm)) s.cs
theorem take_gone {s : St} (h : stateOkV s = true) (ids : List Int) : ∀ c ∈ (takeV s ids).1.cs, hasI c.id ids = false := fun c hc => by
 rw [(takeV_eq s ids).1 h] at hc
 simpa using (List.mem_filter.1 hc).2
theorem drop_gone {s : St} (h : stateOkV s = true) (app : Int) : findAp app (dropV s app).1.apps = none := by
 rw [(dropV_eq s app).1 h]
 unfold findAp
 rw [List.find?_eq_none]
 intro a ha
 simpa using (List.mem_filter.1 ha).2
theorem lose_lost (s : St) (nm : List UInt8) : ∀ c ∈ (loseV s nm).2, c.node = nm := fun c hc => by
 cases h : stateOkV s
 ·rw [(loseV_eq s nm).2 h] at hc; simp at hc
 ·rw [(loseV_eq s nm).1 h] at hc
  simpa using (List.mem_filter.1 hc).2
theorem lose_names {s : St} (h : stateOkV s = true) (nm : List UInt8) : ((loseV s nm).1.ms.map (fun m => m.name)).any (fun x => decide (x = nm)) = false := by
 rw [(loseV_eq s nm).1 h, List.any_eq_false]
 intro x hx
 obtain ⟨m, hm, rfl⟩ := List.mem_map.1 hx
 simpa using (List.mem_filter.1 hm).2
/-- what is left fits, and is well formed -/
theorem take_fit {s : St} (hf : FitSt s) (hw : WfSt s) (ids : List Int) : FitSt (takeV s ids).1 ∧ WfSt (takeV s ids).1 := by
 unfold takeV
 split
 ·exact ⟨⟨hf.1, hf.2.1, hf.2.2.1, Nat.le_trans (List.length_filter_le _ _) hf.2.2.2.1, fun c hc => hf.2.2.2.2 c (List.mem_filter.1 hc).1⟩, hw.1, fun c hc => hw.2 c (List.mem_filter.1 hc).1⟩
 ·exact ⟨hf, hw⟩
theorem drop_fit {s : St} (hf : FitSt s) (hw : WfSt s) (app : Int) : FitSt (dropV s app).1 ∧ WfSt (dropV s app).1 := by
 unfold dropV
 split
 ·exact ⟨⟨hf.1, ⟨Nat.le_trans (List.length_filter_le _ _) hf.2.1.1, fun c hc => hf.2.1.2 c (List.mem_filter.1 hc).1⟩, hf.2.2.1, Nat.le_trans (List.length_filter_le _ _) hf.2.2.2.1, fun c hc => hf.2.2.2.2 c (List.mem_filter.1 hc).1⟩, fun c hc => hw.1 c (List.mem_filter.1 hc).1, fun c hc => hw.2 c (List.mem_filter.1 hc).1⟩
 ·exact ⟨hf, hw⟩
theorem lose_fit {s : St} (hf : FitSt s) (hw : WfSt s) (nm : List UInt8) : FitSt (loseV s nm).1 ∧ WfSt (loseV s nm).1 := by
 unfold loseV
 split
 ·exact ⟨⟨hf.1, hf.2.1, ⟨Nat.le_trans (List.length_filter_le _ _) hf.2.2.1.1, fun c hc => hf.2.2.1.2 c (List.mem_filter.1 hc).1⟩, Nat.le_trans (List.length_filter_le _ _) hf.2.2.2.1, fun c hc => hf.2.2.2.2 c (List.mem_filter.1 hc).1⟩, hw.1, fun c hc => hw.2 c (List.mem_filter.1 hc).1⟩
 ·exact ⟨hf, hw⟩
theorem take_glen {s : St} (hf : FitSt s) (ids : List Int) : (takeV s ids).2.length ≤ 1048576 := by
 have := hf.2.2.2.1
 unfold takeV
 split
 ·exact Nat.le_trans (List.length_filter_le _ _) this
 ·simp
theorem drop_glen {s : St} (hf : FitSt s) (app : Int) : (dropV s app).2.length ≤ 1048576 := by
 have := hf.2.2.2.1
 unfold dropV
 split
 ·exact Nat.le_trans (List.length_filter_le _ _) this
 ·simp
theorem lose_glen {s : St} (hf : FitSt s) (nm : List UInt8) : (loseV s nm).2.length ≤ 1048576 := by
 have := hf.2.2.2.1
 unfold loseV
 split
 ·exact Nat.le_trans (List.length_filter_le _ _) this
 ·simp
/-- what is left of a right state is right, by the program -/
theorem io_ok {y : Sls} {s : St} (hf : FitSt s) (hw : WfSt s) (hc : y.ql ≤ y.qc) (ho : stateOkV s = true) (w : World) (h : SRow w y s) :
  Calls Tryz.prog 24 #[sv y s] w fun e w' => e = .returned (.bool true) ∧ Below w.heap.size w w' := by
 have := implStateOk_any y s w h hf hc hw
 rw [ho] at this
 exact this
end Go.Proofs.YtbkchepelhkjlaaGreat

/-
 The application of a number: AppOf, by the program and by the model; walks over the dump.
-/
namespace Go.Proofs.YtbkchepelhkjlaaGreat
open Go.RowKit Go.Maps
set_option linter.unusedVariables false
def appOfV (s : St) (id : Int) : Appl × Bool := match findAp id s.apps with
 | none => (⟨0, [], []⟩, false)
 | some a => (a, true)
theorem par_find {id : Int} (P : AV → Appl → Prop) (hid : ∀ v a, P v a → v.id = a.id) : ∀ (hs : List AV) (l : List Appl), hs.length = l.length → (∀ i (h : i < hs.length) (h' : i < l.length), P hs[i] l[i]) →
  (findA id hs = none ∧ findAp id l = none) ∨ ∃ v a, findA id hs = some v ∧ findAp id l = some a ∧ P v a ∧ a ∈ l
 | [], [], _, _ => .inl ⟨rfl, rfl⟩
 | v :: t, a :: r, h1, h2 => by
  have h0 := h2 0 (by simp) (by simp)
  simp only [List.getElem_cons_zero] at h0
  by_cases e : a.id = id
  ·have e' : v.id = id := (hid _ _ h0).trans e
   exact .inr ⟨v, a, by simp [findA, e'], by simp [findAp, e], h0, by simp⟩
  ·have e' : ¬ v.id = id := fun x => e ((hid _ _ h0).symm.trans x)
   rcases par_find P hid t r (by simpa using h1) (fun i a b => by have := h2 (i + 1) (by simpa using a) (by simpa using b); simpa using this) with ⟨x, y⟩ | ⟨v', a', x, y, z, m⟩
   ·exact .inl ⟨by simpa [findA, e'] using x, by simpa [findAp, e] using y⟩
   ·exact .inr ⟨v', a', by simpa [findA, e'] using x, by simpa [findAp, e] using y, z, List.mem_cons_of_mem _ m⟩
 | [], a :: r, h1, _ => by simp at h1
 | v :: t, [], h1, _ => by simp at h1
/-- behind the box of a state and the result's variable -/
def appW (w : World) (c : Array Value) : World := (w.alloc (.cells c 29)).alloc (.cells #[.int .i64 0, .string ByteArray.empty, .slice none 0 0] 41)
theorem appW_size (w : World) (c : Array Value) : (appW w c).heap.size = w.heap.size + 1 + 1 := by simp only [appW, al_size]
theorem appW_below (w : World) (c : Array Value) : Below w.heap.size w (appW w c) := below_al (below_al (Below.refl _ w) _) _
theorem appW_box (w : World) (c : Array Value) : Blk (appW w c) w.heap.size c 29 := (blk_new w c _).al _
theorem appW_var (w : World) (c : Array Value) : Blk (appW w c) (w.heap.size + 1) #[.int .i64 0, .string ByteArray.empty, .slice none 0 0] 41 := by
 have := blk_new (w.alloc (.cells c 29)) #[.int .i64 0, .string ByteArray.empty, .slice none 0 0] 41
 rwa [al_size] at this

set_option maxRecDepth 100000 in
set_option maxHeartbeats 4000000 in
theorem implAppOf_any (x : Sls) (s : St) (id : Int) (w : World) (h : SRow w x s) (hf : FitSt s) (hw : ∀ a ∈ s.apps, (Lit.int .i64 a.id).wf = true) (hi : (Lit.int .i64 id).wf = true) :
  Calls Tryz.prog 12 #[sv x s, .int .i64 id] w fun e w' => ∃ v, e = .returned (.tuple #[.agg #[.int .i64 (appOfV s id).1.id, .string (bs (appOfV s id).1.queue), v], .bool (appOfV s id).2]) ∧ Hid (AOwn w.heap.size w' v (appOfV s id).1.asks ∧ Below w.heap.size w w') := by
 have hal : x.al ≤ 1048576 := by have := h.len.2.1; have := hf.2.1.1; omega
 obtain ⟨hs, hav, hh⟩ := h.2.1.heads
 have hwf : ∀ v ∈ hs, (Lit.int .i64 v.id).wf = true := fun v hv => by
  obtain ⟨i, hi, rfl⟩ := List.mem_iff_getElem.1 hv
  have hi' : i < s.apps.length := by rw [← hh.1]; exact hi
  rw [(hh.2 i hi hi').1]
  exact hw _ (List.getElem_mem _)
 have CM := hide (fun wx (hb : Below w.heap.size w wx) => apps_ex x s hs wx (hav.below hb) hal hwf)
 obtain ⟨kl, hkey⟩ := keyKey (nm := []) (k := id) (by decide) hi
 have HKEY := hide hkey
 have hpf := par_find (id := id) (fun v a => v.id = a.id ∧ v.queue = a.queue ∧ AskRow w v.ao v.len a.asks ∧ v.len ≤ v.cap) (fun v a h => h.1) hs s.apps hh.1 hh.2
 have HPF := hide hpf
 have HFA := hide hf.2.1
 have HAV := hide (show appOfV s id = match findAp id s.apps with | none => (⟨0, [], []⟩, false) | some a => (a, true) from rfl)
 obtain ⟨⟨⟨ai, aq, aas⟩, fo⟩, hap⟩ : ∃ r, appOfV s id = r := ⟨_, rfl⟩
 rw [hap] at HAV ⊢
 clear h hf hw hi hav hh hwf hkey hpf hap
 obtain ⟨qa, ql, qc, aa, al, ac, ma, ml, mc, ca, cl, cc⟩ := x
 obtain ⟨qs, clock, epoch, next, serial, apps, ms, cs⟩ := s
 simp only at CM HPF HFA HAV hal ⊢
 have HB0 := hide (appW_below w (svc ⟨qa, ql, qc, aa, al, ac, ma, ml, mc, ca, cl, cc⟩ ⟨qs, clock, epoch, next, serial, apps, ms, cs⟩))
 have V0 := hide (appW_var w (svc ⟨qa, ql, qc, aa, al, ac, ma, ml, mc, ca, cl, cc⟩ ⟨qs, clock, epoch, next, serial, apps, ms, cs⟩))
 go_enter Tryz.func12, Tryz.ntmps12
 go_wp2_with fail
 refine (unhide CM _ (unhide HB0)).mono ?_
 rintro e w1 ⟨bm, rfl, ⟨hbm, D, hown, hk⟩, hb⟩
 have HB1 := hide (below_on (unhide HB0) hb)
 have V1 := hide ((unhide V0).below hb)
 obtain ⟨v, hlk, hv1, hv2⟩ := lookA hown hk (unhide HKEY)
 rcases unhide HPF with ⟨hf1, hf2⟩ | ⟨u, a, hf1, hf2, ⟨hu1, hu2, hu3, hu4⟩, hmem⟩
 ·obtain rfl := hv2 hf1
  rw [hf1] at hlk
  rw [hf2] at HAV
  have hz := unhide HAV
  simp only [Prod.mk.injEq, Appl.mk.injEq] at hz
  obtain ⟨⟨rfl, rfl, rfl⟩, rfl⟩ := hz
  have hl2 : (Instr.lookup 89 (.map (some bm)) (.agg #[.string { data := #[] }, .int .i64 id]) true).run Tryz.prog w1 = .ok (.tuple #[.agg #[.int .i64 0, .string { data := #[] }, .slice none 0 0], .bool false]) w1 := hlk
  have hl3 : (Instr.lookup 89 (.map (some bm)) (.agg #[.string ByteArray.empty, .int .i64 id]) true).run Tryz.prog w1 = .ok (.tuple #[.agg #[.int .i64 0, .string { data := #[] }, .slice none 0 0], .bool false]) w1 := hlk
  have V2 := (unhide V1).al (.cells #[.int .i64 0, .string { data := #[] }, .slice none 0 0] 41)
  have HV2 := hide V2
  have t0 := V2.at 0
  have t1 := V2.at 1
  have t2 := V2.at 2
  have tf0 := V2.f 0
  have tf1 := V2.f 1
  have tf2 := V2.f 2
  simp at t0 t1 t2
  clear hlk hv1 hv2 hf1 hf2 hown hk hb V2 HPF
  go_wp2
  have X1 := (((unhide HV2).set 0 (.int .i64 0)).set 1 (.string { data := #[] })).set 2 (.slice none 0 0)
  have x0 := X1.at 0
  have x1 := X1.at 1
  have x2 := X1.at 2
  simp at x0 x1 x2
  refine bodyPost_ret (v := .tuple #[.agg #[.int .i64 0, .string { data := #[] }, .slice none 0 0], .bool false]) (by simp [results, Tryz.results12, go_sem, x0, x1, x2]) rfl ⟨_, rfl, hide ⟨aown_nil _ _, ?_⟩⟩
  exact below_sc (below_sc (below_sc (below_al (unhide HB1) _) _ _ _ (by omega)) _ _ _ (by omega)) _ _ _ (by omega)
 ·have hvu := hv1 u hf1 rfl
  subst hvu
  rw [hf1] at hlk
  rw [hf2] at HAV
  have hz := unhide HAV
  simp only [Prod.mk.injEq] at hz
  obtain ⟨hza, rfl⟩ := hz
  subst hza
  obtain ⟨ui, uq, uo, ul, uc⟩ := v
  simp only at hu1 hu2 hu3 hu4
  subst hu1 hu2
  have hfa := (unhide HFA).2 _ hmem
  have hul : ul ≤ 1048576 := by have h1 := hu3.1; have h2 := hfa.2.1; simp only at h2; omega
  have CO := hide (fun wx (hb : Below w.heap.size w wx) => copyOfApp_any ui uq uo ul uc aas wx (hu3.below hb) hul hfa.1 hfa.2.2)
  have hl2 : (Instr.lookup 89 (.map (some bm)) (.agg #[.string { data := #[] }, .int .i64 id]) true).run Tryz.prog w1 = .ok (.tuple #[.agg #[.int .i64 ui, .string (bs uq), .slice uo ul uc], .bool true]) w1 := hlk
  have hl3 : (Instr.lookup 89 (.map (some bm)) (.agg #[.string ByteArray.empty, .int .i64 id]) true).run Tryz.prog w1 = .ok (.tuple #[.agg #[.int .i64 ui, .string (bs uq), .slice uo ul uc], .bool true]) w1 := hlk
  have HB2 := hide (below_al (unhide HB1) (.cells #[.int .i64 ui, .string (bs uq), .slice uo ul uc] 41))
  have V2 := hide ((unhide V1).al (.cells #[.int .i64 ui, .string (bs uq), .slice uo ul uc] 41))
  have hs1 : w.heap.size + 1 + 1 ≤ w1.heap.size := by have := hb.size; rw [appW_size] at this; exact this
  clear hlk hv1 hv2 hf1 hf2 hown hk hb HPF hu3 hu4 hmem hfa HAV HB1 V1 HB0 V0 CM HFA
  go_wp2_with fail
  refine (unhide CO _ (unhide HB2)).mono ?_
  rintro e w2 ⟨v, rfl, ho, hb⟩
  have HO := hide (ho.base (B' := w.heap.size + 2) (by rw [al_size]; omega))
  have HV3 := hide ((unhide V2).below hb)
  have HB3 := hide (below_on (unhide HB2) hb)
  obtain ⟨xo, xc, rfl, _⟩ := ho.row
  obtain ⟨n, hnn⟩ : ∃ n, aas.length = n := ⟨_, rfl⟩
  rw [hnn] at HO ⊢
  clear ho hb hnn CO HB2 V2 hl2 hl3
  have t0 := (unhide HV3).at 0
  have t1 := (unhide HV3).at 1
  have t2 := (unhide HV3).at 2
  have tf0 := (unhide HV3).f 0
  have tf1 := (unhide HV3).f 1
  have tf2 := (unhide HV3).f 2
  simp at t0 t1 t2
  go_wp2
  have X1 := (((unhide HV3).set 0 (.int .i64 ui)).set 1 (.string (bs uq))).set 2 (.slice xo n xc)
  have x0 := X1.at 0
  have x1 := X1.at 1
  have x2 := X1.at 2
  simp at x0 x1 x2
  refine bodyPost_ret (v := .tuple #[.agg #[.int .i64 ui, .string (bs uq), .slice xo n xc], .bool true]) (by simp [results, Tryz.results12, go_sem, x0, x1, x2]) rfl ⟨_, rfl, hide ⟨?_, ?_⟩⟩
  ·exact ((((unhide HO).other3 (w.heap.size + 1) 0 (.int .i64 ui) (by omega)).other3 (w.heap.size + 1) 1 (.string (bs uq)) (by omega)).other3 (w.heap.size + 1) 2 (.slice xo n xc) (by omega)).base (by omega)
  ·exact below_sc (below_sc (below_sc (unhide HB3) _ _ _ (by omega)) _ _ _ (by omega)) _ _ _ (by omega)
end Go.Proofs.YtbkchepelhkjlaaGreat

/-
 What the law FnTake calls at its end, in the form that it wants: an application that is asked for, a number that is not in a list, a name that is not in a list.
-/
namespace Go.Proofs.YtbkchepelhkjlaaGreat
open Go.RowKit
set_option linter.unusedVariables false
theorem ao_call {y : Sls} {s : St} (hf : FitSt s) (hw : WfSt s) {id : Int} (hi : 0 ≤ id ∧ id ≤ 100000) {th : Bool} (ht : (findAp id s.apps).isSome = th) (w : World) (h : SRow w y s) :
  Calls Tryz.prog 12 #[sv y s, .int .i64 id] w fun e w' => ∃ ai aq vo vn vc, e = .returned (.tuple #[.agg #[.int .i64 ai, .string (bs aq), .slice vo vn vc], .bool th]) ∧ Below w.heap.size w w' := by
 have hwi : (Lit.int .i64 id).wf = true := by
  have h1 : (-9223372036854775808 : Int) ≤ id := by omega
  have h2 : id ≤ 9223372036854775807 := by omega
  simp only [Lit.wf, Bool.and_eq_true, decide_eq_true_eq]
  exact ⟨h1, h2⟩
 refine (implAppOf_any y s id w h hf hw.1 hwi).mono ?_
 rintro e w' ⟨v, he, hx⟩
 obtain ⟨ho, hb⟩ := unhide hx
 obtain ⟨vo, vc, rfl, _⟩ := aown_has ho
 have h2 : (appOfV s id).2 = th := by rw [← ht]; unfold appOfV; cases findAp id s.apps <;> rfl
 rw [h2] at he
 exact ⟨_, _, vo, _, vc, he, hb⟩
theorem among_no {ao : Option Addr} {len cap : Nat} {l : List Int} {x : Int} (hn : hasI x l = false) (hl : len ≤ 1048576) (w : World) (h : IRow w ao len l) :
  Calls Tryz.prog 43 #[.slice ao len cap, .int .i64 x] w fun e w' => e = .returned (.bool false) ∧ w = w' := by
 have := among_any ao len cap l x w h hl
 rw [hn] at this
 exact this
theorem has_no {v : Value} {ps : List (List UInt8)} {nm : List UInt8} (hn : ps.any (fun x => decide (x = nm)) = false) (hl : ps.length ≤ 1048576) (B : Nat) (w : World) (h : Texts B w v ps) :
  Calls Tryz.prog 44 #[v, .string (bs nm)] w fun e w' => e = .returned (.bool false) ∧ w = w' := by
 have := lawsHas_any v ps nm B w h hl
 rw [hn] at this
 exact this
end Go.Proofs.YtbkchepelhkjlaaGreat

/-
 The laws' own sameTexts and sameQueues, at lists that hold the same; walks over the dump.
-/
namespace Go.Proofs.YtbkchepelhkjlaaGreat
open Go.RowKit
set_option linter.unusedVariables false
set_option linter.unusedSimpArgs false
/-- two places hold one text; nothing of w has turned -/
def TTwo (w0 : World) (b p c r : Nat) (x : ByteArray) (w : World) : Prop := (w.cell? ⟨b, p, none⟩ = some (.string x) ∧ w.cell? ⟨c, r, none⟩ = some (.string x)) ∧ Below w0.heap.size w0 w
theorem TTwo.drew {w0 w : World} {b p c r : Nat} {x : ByteArray} (h : TTwo w0 b p c r x w) : TTwo w0 b p c r x w.drew := ⟨h.1, h.2.drew⟩
theorem TTwo.read (w0 : World) (b p c r : Nat) (x : ByteArray) : ∀ wx, TTwo w0 b p c r x wx → wx.cell? ⟨b, p, none⟩ = some (.string x) ∧ wx.cell? ⟨c, r, none⟩ = some (.string x) := fun wx h => h.1

/-- two places hold one queue; nothing of w has turned -/
def QTw (w0 : World) (b p c r : Nat) (q : Q) (w : World) : Prop := QAt w b p q ∧ QAt w c r q ∧ Below w0.heap.size w0 w
theorem QTw.drew {w0 w : World} {b p c r : Nat} {q : Q} (h : QTw w0 b p c r q w) : QTw w0 b p c r q w.drew := ⟨h.1.below (Below.refl _ _).drew, h.2.1.below (Below.refl _ _).drew, h.2.2.drew⟩
theorem QTw.read (w0 : World) (b p c r : Nat) (q : Q) : ∀ wx, QTw w0 b p c r q wx → (wx.cell? ⟨b, p, none⟩ = some (.string (bs q.name)) ∧ wx.cell? ⟨b, p + 1, none⟩ = some (.string (bs q.parent)) ∧ wx.cell? ⟨b, p + 2, none⟩ = some (.int .i64 q.due) ∧ wx.cell? ⟨b, p + 3, none⟩ = some (.int .i64 q.most)) ∧ wx.cell? ⟨c, r, none⟩ = some (.string (bs q.name)) ∧ wx.cell? ⟨c, r + 1, none⟩ = some (.string (bs q.parent)) ∧ wx.cell? ⟨c, r + 2, none⟩ = some (.int .i64 q.due) ∧ wx.cell? ⟨c, r + 3, none⟩ = some (.int .i64 q.most) := fun wx h => ⟨h.1, h.2.1⟩
set_option maxRecDepth 100000 in
set_option maxHeartbeats 2000000 in
theorem sameQueues_same (ao bo : Option Addr) (len cap ccap : Nat) (l : List Q) (w : World) (h : QRow w ao len l) (h' : QRow w bo len l) (hl : len ≤ 1048576) :
  Calls Tryz.prog 88 #[.slice ao len cap, .slice bo len ccap] w fun e w' => e = .returned (.bool true) ∧ Below w.heap.size w w' := by
 have HR := hide h
 have HR' := hide h'
 have HL := hide h.1
 clear h h'
 go_enter Tryz.func88, Tryz.ntmps88
 go_wp2
 go_loopw [5] (fun i wr => ∃ k : Nat, k ≤ len ∧ i = .int .i64 k ∧ Hid (Below w.heap.size w wr)) (fun i _ => len - (intOf i).toNat)
 case atStart => exact ⟨0, Nat.zero_le _, rfl, hide (Below.refl _ _)⟩
 case round =>
  obtain ⟨k, hk, rfl, HB⟩ := hrel
  by_cases hlt : k < len
  ·obtain ⟨b, off, rfl, hq⟩ := ((unhide HR).below (unhide HB)).at hlt
   obtain ⟨c, coff, rfl, hq'⟩ := ((unhide HR').below (unhide HB)).at hlt
   have hkl : k < l.length := by have := unhide HL; omega
   have A0 := hide (show QTw w b (off + k * 4) c (coff + k * 4) l[k] wr from ⟨hq hkl, hq' hkl, unhide HB⟩)
   obtain ⟨q, hs⟩ : ∃ q, l[k] = q := ⟨_, rfl⟩
   rw [hs] at A0
   have R := QTw.read w b (off + k * 4) c (coff + k * 4) q
   have k0 : (0 : Int) ≤ k := by omega
   have k1 : (k : Int) < len := by omega
   clear hq hq' hs hkl
   go_wp2_with fail
   go_region_held3 (fun wx => QTw w b (off + k * 4) c (coff + k * 4) q wx)
    (first | (with_reducible assumption) | exact (unhide A0).drew)
    (fail)
   have HB2 := hide (unhide A0).2.2.drew
   clear R A0 HR HR'
   go_wp2
   go_roundw
   case rel => exact ⟨k + 1, by omega, by go_num, HB2⟩
   case measure => simp [intOf]; omega
  ·go_wp2
   go_ret
   exact ⟨rfl, unhide HB⟩
end Go.Proofs.YtbkchepelhkjlaaGreat
