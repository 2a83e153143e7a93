/-
  Several texts of this claim in one: StM, SameW (pack.py put them together); each says in its own remark what is proved.
-/
import Derived.Test.YtcplnodfcchdhaaGreatPackAC
import Derived.Test.YtcplnodfcchdhaaGreatPackX
import Derived.Test.YtcplnodfcchdhaaGreatPackE
import Derived.Deep.RegionHeld3
/-
  A right state: what is free and what is used on a machine is all that it can; what a queue that is no leaf uses is what its kids use together; plain mathematics.
-/
namespace Go.Proofs.YtcplnodfcchdhaaGreat
open Go.RowKit
set_option linter.unusedVariables false
def sm {α : Type} (f : α → Int) (l : List α) : Int := (l.map f).sum
theorem sm_nil {α : Type} (f : α → Int) : sm f [] = 0 := rfl
theorem sm_cons {α : Type} (f : α → Int) (a : α) (t : List α) : sm f (a :: t) = f a + sm f t := by simp [sm]
theorem sm_nonneg {α : Type} {f : α → Int} : ∀ {l : List α}, (∀ a ∈ l, 0 ≤ f a) → 0 ≤ sm f l
  | [], _ => Int.le_refl _
  | a :: t, h => by
    rw [sm_cons]
    have := h a (by simp)
    have := sm_nonneg (f := f) (l := t) (fun x hx => h x (by simp [hx]))
    omega
theorem sm_mono {α : Type} {f g : α → Int} : ∀ {l : List α}, (∀ a ∈ l, f a ≤ g a) → sm f l ≤ sm g l
  | [], _ => Int.le_refl _
  | a :: t, h => by
    rw [sm_cons, sm_cons]
    have := h a (by simp)
    have := sm_mono (f := f) (g := g) (l := t) (fun x hx => h x (by simp [hx]))
    omega
theorem sum_is : ∀ (l : List (Int × Int)) (x y : Int), (sumFrom l x y).2.2 = true → sumFrom l x y = (x + sm (fun r => r.1) l, y + sm (fun r => r.2) l, true)
  | [], x, y, _ => by simp [sumFrom, sm]
  | r :: t, x, y, h => by
    rw [sumFrom] at h ⊢
    by_cases hb : bothOk 1 x y r.1 r.2 = true
    · rw [if_pos hb] at h ⊢
      rw [sum_is t _ _ h, sm_cons, sm_cons]
      simp only [Prod.mk.injEq, and_true]
      constructor <;> omega
    · rw [if_neg hb] at h; cases h
theorem sum_good : ∀ (l : List (Int × Int)) (x y : Int), resOk x y = true → (∀ r ∈ l, resOk r.1 r.2 = true) → x + sm (fun r => r.1) l ≤ 1000000000 → y + sm (fun r => r.2) l ≤ 1000000000 → sumFrom l x y = (x + sm (fun r => r.1) l, y + sm (fun r => r.2) l, true)
  | [], x, y, _, _, _, _ => by simp [sumFrom, sm]
  | r :: t, x, y, h, hr, h1, h2 => by
    have b := resOk_bd h
    have hrr := hr r (by simp)
    have c := resOk_bd hrr
    have n1 : 0 ≤ sm (fun r : Int × Int => r.1) t := sm_nonneg (fun a ha => (resOk_bd (hr a (by simp [ha]))).1)
    have n2 : 0 ≤ sm (fun r : Int × Int => r.2) t := sm_nonneg (fun a ha => (resOk_bd (hr a (by simp [ha]))).2.2.1)
    rw [sm_cons] at h1 h2
    have ho : resOk (x + 1 * r.1) (y + 1 * r.2) = true := by simp only [resOk, inB, Bool.and_eq_true, decide_eq_true_eq]; omega
    have hb : bothOk 1 x y r.1 r.2 = true := by simp only [bothOk, h, hrr, ho, Bool.and_self]
    rw [sumFrom, if_pos hb, sum_good t _ _ ho (fun a ha => hr a (by simp [ha])) (by omega) (by omega), sm_cons, sm_cons]
    simp only [Prod.mk.injEq, and_true]
    constructor <;> omega
/-- of the containers that p takes, together -/
def fF (f : Con → Int) (p : Con → Bool) (l : List Con) : Int := sm f (l.filter p)
theorem fF_cons (f : Con → Int) (p : Con → Bool) (c : Con) (t : List Con) : fF f p (c :: t) = (if p c = true then f c else 0) + fF f p t := by
  unfold fF
  by_cases hp : p c = true
  · rw [List.filter_cons_of_pos hp, sm_cons, if_pos hp]
  · rw [List.filter_cons_of_neg hp, if_neg hp]; omega
theorem fF_congr {f : Con → Int} {p r : Con → Bool} {l : List Con} (h : ∀ c ∈ l, p c = r c) : fF f p l = fF f r l := by
  unfold fF; rw [List.filter_congr h]
theorem fF_le {f : Con → Int} {p r : Con → Bool} : ∀ {l : List Con}, (∀ c ∈ l, 0 ≤ f c) → (∀ c ∈ l, p c = true → r c = true) → fF f p l ≤ fF f r l
  | [], _, _ => Int.le_refl _
  | c :: t, h, hi => by
    rw [fF_cons, fF_cons]
    have h1 := h c (by simp)
    have h2 := hi c (by simp)
    have := fF_le (f := f) (p := p) (r := r) (l := t) (fun x hx => h x (by simp [hx])) (fun x hx => hi x (by simp [hx]))
    cases hp : p c <;> cases hr : r c <;> simp_all <;> omega
theorem fF_all (f : Con → Int) (l : List Con) : fF f (fun _ => true) l = sm f l := by
  unfold fF; rw [List.filter_eq_self.2 (fun _ _ => rfl)]
theorem fF_or {f : Con → Int} {p r : Con → Bool} : ∀ {l : List Con}, (∀ c ∈ l, p c = true → r c = false) → fF f (fun c => p c || r c) l = fF f p l + fF f r l
  | [], _ => rfl
  | c :: t, h => by
    rw [fF_cons, fF_cons, fF_cons, fF_or (fun x hx => h x (by simp [hx]))]
    have := h c (by simp)
    cases hp : p c <;> cases hr : r c <;> simp_all <;> omega
theorem used_sm (p : Con → Bool) (l : List Con) : sm (fun r => r.1) (usedL p l) = fF (fun c => c.mem) p l ∧ sm (fun r => r.2) (usedL p l) = fF (fun c => c.cpu) p l := by
  unfold usedL fF sm
  rw [List.map_map, List.map_map]
  exact ⟨rfl, rfl⟩
theorem on_cons (f : Con → Int) (c : Con) (t : List Con) : ∀ ms : List Mac, sm (fun m => fF f (fun q => decide (q.node = m.name)) (c :: t)) ms = sm (fun m => fF f (fun q => decide (q.node = m.name)) t) ms + sm (fun m => if c.node = m.name then f c else 0) ms
  | [] => rfl
  | m :: r => by
    rw [sm_cons, sm_cons, sm_cons, on_cons f c t r, fF_cons]
    by_cases h : c.node = m.name
    · simp only [h, decide_true, if_true]; omega
    · simp only [h, decide_false, if_false, Bool.false_eq_true]; omega
theorem hit_le {c : Con} {v : Int} (h0 : 0 ≤ v) : ∀ {ms : List Mac}, (∃ m ∈ ms, m.name = c.node) → v ≤ sm (fun m => if c.node = m.name then v else 0) ms
  | [], h => by obtain ⟨m, hm, _⟩ := h; simp at hm
  | m :: r, h => by
    rw [sm_cons]
    have hn : 0 ≤ sm (fun m => if c.node = m.name then v else 0) r := sm_nonneg (fun a _ => by split <;> omega)
    by_cases he : c.node = m.name
    · rw [if_pos he]; omega
    · rw [if_neg he]
      obtain ⟨x, hx, e⟩ := h
      have := hit_le (c := c) h0 (ms := r) ⟨x, (List.mem_cons.1 hx).resolve_left (fun e' => he (by rw [← e', e])), e⟩
      omega
theorem all_le {f : Con → Int} {ms : List Mac} : ∀ {cs : List Con}, (∀ c ∈ cs, 0 ≤ f c ∧ ∃ m ∈ ms, m.name = c.node) → sm f cs ≤ sm (fun m => fF f (fun q => decide (q.node = m.name)) cs) ms
  | [], _ => by rw [sm_nil]; exact sm_nonneg (fun a _ => Int.le_refl _)
  | c :: t, h => by
    rw [sm_cons, on_cons]
    have h1 := h c (by simp)
    have := hit_le (c := c) h1.1 h1.2
    have := all_le (f := f) (ms := ms) (cs := t) (fun x hx => h x (by simp [hx]))
    omega
theorem conts_res {apps : List Appl} {ms : List Mac} : ∀ (l : List Con) (last : Int), contsS apps ms last l = true → ∀ c ∈ l, resOk c.mem c.cpu = true
  | [], _, _, c, hc => by simp at hc
  | a :: t, last, h, c, hc => by
    simp only [contsS, Bool.and_eq_true, someR] at h
    rcases List.mem_cons.1 hc with rfl | hc
    · exact h.2.2.2.2.1.1
    · exact conts_res t _ h.2.2.2.2.2 c hc
theorem find_mac {nm : List UInt8} {ms : List Mac} (h : (findM nm ms).isSome = true) : ∃ m ∈ ms, m.name = nm := by
  unfold findM at h
  rw [List.find?_isSome] at h
  obtain ⟨m, hm, e⟩ := h
  exact ⟨m, hm, by simpa using e⟩
/-- what runs on the machines of a right state is no more than they can -/
theorem st_sums {s : St} (h : stateOkV s = true) : (∀ c ∈ s.cs, resOk c.mem c.cpu = true) ∧ sm (fun c => c.mem) s.cs ≤ 1000000000 ∧ sm (fun c => c.cpu) s.cs ≤ 1000000000 := by
  have hp := (okParts h).2.1
  simp only [stateOkV, stateOkS, Bool.and_eq_true, appsOkV, machsOkS] at h
  obtain ⟨_, _, _, _, _, _, ⟨h7, h8, _⟩, _, h9⟩ := h
  have hr := conts_res _ _ h9
  have hh := ((machsS_iff _ _).1 h7).2
  have hs := sum_is (capsOf s.ms) 0 0 h8
  have hk := resOk_bd (okSum (capsOf s.ms) 0 0 (by decide))
  rw [hs] at hk
  simp only at hk
  have e1 : sm (fun r : Int × Int => r.1) (capsOf s.ms) = sm (fun m : Mac => m.mem) s.ms := by unfold sm capsOf; rw [List.map_map]; rfl
  have e2 : sm (fun r : Int × Int => r.2) (capsOf s.ms) = sm (fun m : Mac => m.cpu) s.ms := by unfold sm capsOf; rw [List.map_map]; rfl
  rw [e1, e2] at hk
  have hm : ∀ m ∈ s.ms, fF (fun c => c.mem) (fun q => decide (q.node = m.name)) s.cs ≤ m.mem ∧ fF (fun c => c.cpu) (fun q => decide (q.node = m.name)) s.cs ≤ m.cpu := fun m hm => by
    have h1 := hh m hm
    simp only [holdM, Bool.and_eq_true, sumR] at h1
    obtain ⟨_, h2, h3⟩ := h1
    rw [sum_is _ _ _ h2, (used_sm _ _).1, (used_sm _ _).2] at h3
    simp only [within, Bool.and_eq_true, decide_eq_true_eq] at h3
    omega
  have a1 := all_le (f := fun c => c.mem) (ms := s.ms) (cs := s.cs) (fun c hc => ⟨(resOk_bd (hr c hc)).1, find_mac (hp c hc).2⟩)
  have a2 := all_le (f := fun c => c.cpu) (ms := s.ms) (cs := s.cs) (fun c hc => ⟨(resOk_bd (hr c hc)).2.2.1, find_mac (hp c hc).2⟩)
  have b1 : sm (fun m : Mac => fF (fun c => c.mem) (fun q => decide (q.node = m.name)) s.cs) s.ms ≤ sm (fun m : Mac => m.mem) s.ms := sm_mono (fun m hm' => (hm m hm').1)
  have b2 : sm (fun m : Mac => fF (fun c => c.cpu) (fun q => decide (q.node = m.name)) s.cs) s.ms ≤ sm (fun m : Mac => m.cpu) s.ms := sm_mono (fun m hm' => (hm m hm').2)
  exact ⟨hr, Int.le_trans (Int.le_trans a1 b1) (by omega), Int.le_trans (Int.le_trans a2 b2) (by omega)⟩
theorem used_is {s : St} (h : stateOkV s = true) (p : Con → Bool) : sumR (usedL p s.cs) = (fF (fun c => c.mem) p s.cs, fF (fun c => c.cpu) p s.cs, true) ∧ resOk (fF (fun c => c.mem) p s.cs) (fF (fun c => c.cpu) p s.cs) = true := by
  obtain ⟨hr, h1, h2⟩ := st_sums h
  have l1 := fF_le (f := fun c => c.mem) (p := p) (r := fun _ => true) (l := s.cs) (fun c hc => (resOk_bd (hr c hc)).1) (fun _ _ _ => rfl)
  have l2 := fF_le (f := fun c => c.cpu) (p := p) (r := fun _ => true) (l := s.cs) (fun c hc => (resOk_bd (hr c hc)).2.2.1) (fun _ _ _ => rfl)
  rw [fF_all] at l1 l2
  have g := sum_good (usedL p s.cs) 0 0 (by decide) (fun r hr' => by
    unfold usedL at hr'
    obtain ⟨c, hc, rfl⟩ := List.mem_map.1 hr'
    exact hr c (List.mem_filter.1 hc).1) (by rw [(used_sm _ _).1]; omega) (by rw [(used_sm _ _).2]; omega)
  rw [(used_sm _ _).1, (used_sm _ _).2, Int.zero_add, Int.zero_add] at g
  refine ⟨g, ?_⟩
  have := okSum (usedL p s.cs) 0 0 (by decide)
  rw [g] at this
  exact this
/-- a container of a kid among those up to place i -/
def kidP (s : St) (nm : List UInt8) (i : Nat) (c : Con) : Bool := ((s.qs.take i).drop 1).any (fun q => decide (q.parent = nm) && byQ s q.name c)
theorem kid_first (s : St) (nm : List UInt8) (c : Con) : kidP s nm 1 c = false := by
  unfold kidP
  rw [List.drop_of_length_le (by rw [List.length_take]; omega)]
  rfl
theorem kid_next {s : St} {nm : List UInt8} {i : Nat} (h1 : 1 ≤ i) (hi : i < s.qs.length) (c : Con) : kidP s nm (i + 1) c = (kidP s nm i c || (decide (s.qs[i].parent = nm) && byQ s s.qs[i].name c)) := by
  unfold kidP
  rw [List.take_succ_eq_append_getElem hi, List.drop_append_of_le_length (by rw [List.length_take]; omega), List.any_append]
  simp
theorem byQ_some {s : St} {nm : List UInt8} {c : Con} (h : byQ s nm c = true) : ∃ a, findAp c.app s.apps = some a ∧ onP s.qs a.queue nm = true := by
  unfold byQ at h
  split at h
  · cases h
  · rename_i a ha
    exact ⟨a, ha, h⟩
theorem byQ_of {s : St} {nm : List UInt8} {c : Con} {a : Appl} (ha : findAp c.app s.apps = some a) : byQ s nm c = onP s.qs a.queue nm := by
  unfold byQ; rw [ha]; rfl
theorem kid_mem {s : St} {nm : List UInt8} {i : Nat} {c : Con} (h : kidP s nm i c = true) : ∃ j, ∃ hj : j < s.qs.length, 1 ≤ j ∧ j < i ∧ s.qs[j].parent = nm ∧ byQ s s.qs[j].name c = true := by
  unfold kidP at h
  rw [List.any_eq_true] at h
  obtain ⟨q, hq, hb⟩ := h
  simp only [Bool.and_eq_true, decide_eq_true_eq] at hb
  obtain ⟨k, hk, rfl⟩ := List.mem_iff_getElem.1 hq
  have hk' : k < (s.qs.take i).length - 1 := by simpa using hk
  rw [List.length_take] at hk'
  have e : ((s.qs.take i).drop 1)[k] = s.qs[k + 1]'(by omega) := by simp
  rw [e] at hb
  exact ⟨k + 1, by omega, by omega, by omega, hb.1, hb.2⟩
theorem kid_disj {s : St} (h : queuesOk s.qs = true) {nm : List UInt8} {i : Nat} (hi : i < s.qs.length) (hp : s.qs[i].parent = nm) {c : Con} (hk : kidP s nm i c = true) : byQ s s.qs[i].name c = false := by
  obtain ⟨j, hj, _, hji, hjp, hb⟩ := kid_mem hk
  obtain ⟨a, ha, hon⟩ := byQ_some hb
  rw [byQ_of ha]
  exact kids_apart h hj hi hji (by rw [hjp, hp]) hon
theorem apps_lone {qs : List Q} {nx : Int} : ∀ (l : List Appl) (last : Int), appsFrom qs nx last l = true → ∀ a ∈ l, lone qs a.queue = true
  | [], _, _, a, ha => by simp at ha
  | x :: t, last, h, a, ha => by
    simp only [appsFrom, Bool.and_eq_true] at h
    rcases List.mem_cons.1 ha with rfl | ha
    · exact h.2.2.1
    · exact apps_lone t _ h.2.2.2.2 a ha
theorem kid_last {s : St} (h : stateOkV s = true) {nm : List UInt8} (hl : leaf s.qs nm = false) {c : Con} (hc : c ∈ s.cs) {n : Nat} (hn : s.qs.length ≤ n) : kidP s nm n c = byQ s nm c := by
  have hp := ((okParts h).2.1 c hc).1
  simp only [stateOkV, stateOkS, Bool.and_eq_true, appsOkV, machsOkS] at h
  obtain ⟨hq, _, _, _, _, ⟨_, h6⟩, _⟩ := h
  obtain ⟨a, ha⟩ := Option.isSome_iff_exists.1 hp
  have ham : a ∈ s.apps := by unfold findAp at ha; exact List.mem_of_find?_eq_some ha
  have hlo := apps_lone _ _ h6 a ham
  rw [byQ_of ha]
  have hk := kid_on hq (nm := nm) hlo hl
  cases ho : onP s.qs a.queue nm with
  | true =>
    obtain ⟨i, hi, h1, e, hon⟩ := hk.1 ho
    unfold kidP
    rw [List.any_eq_true]
    refine ⟨s.qs[i], ?_, by rw [byQ_of ha, hon]; simp [e]⟩
    rw [List.take_of_length_le hn, List.mem_iff_getElem]
    exact ⟨i - 1, by simp; omega, by simp; congr 1; omega⟩
  | false =>
    cases hkp : kidP s nm n c with
    | false => rfl
    | true =>
      obtain ⟨j, hj, h1, _, e, hb⟩ := kid_mem hkp
      rw [byQ_of ha] at hb
      have := hk.2 ⟨j, hj, h1, e, hb⟩
      rw [ho] at this
      cases this
/-- what the kids up to place i use together -/
def kidsU (s : St) (nm : List UInt8) (i : Nat) : Int × Int := (fF (fun c => c.mem) (kidP s nm i) s.cs, fF (fun c => c.cpu) (kidP s nm i) s.cs)
theorem kids_first (s : St) (nm : List UInt8) : kidsU s nm 1 = (0, 0) := by
  have e : ∀ f : Con → Int, fF f (kidP s nm 1) s.cs = 0 := fun f => by
    unfold fF
    rw [List.filter_eq_nil_iff.2 (fun c _ => by rw [kid_first]; simp)]
    rfl
  simp only [kidsU, e]
theorem kids_skip {s : St} {nm : List UInt8} {i : Nat} (h1 : 1 ≤ i) (hi : i < s.qs.length) (hp : ¬ s.qs[i].parent = nm) : kidsU s nm (i + 1) = kidsU s nm i := by
  have e : ∀ c ∈ s.cs, kidP s nm (i + 1) c = kidP s nm i c := fun c _ => by rw [kid_next h1 hi, decide_eq_false hp]; simp
  simp only [kidsU, fF_congr e]
theorem kids_step {s : St} (h : stateOkV s = true) {nm : List UInt8} {i : Nat} (h1 : 1 ≤ i) (hi : i < s.qs.length) (hp : s.qs[i].parent = nm) :
    bothOk 1 (kidsU s nm i).1 (kidsU s nm i).2 (usedByV s s.qs[i].name).1 (usedByV s s.qs[i].name).2 = true ∧ kidsU s nm (i + 1) = ((kidsU s nm i).1 + 1 * (usedByV s s.qs[i].name).1, (kidsU s nm i).2 + 1 * (usedByV s s.qs[i].name).2) := by
  have hq : queuesOk s.qs = true := by simp only [stateOkV, stateOkS, Bool.and_eq_true] at h; exact h.1
  have e : ∀ c ∈ s.cs, kidP s nm (i + 1) c = (kidP s nm i c || byQ s s.qs[i].name c) := fun c _ => by rw [kid_next h1 hi, decide_eq_true hp]; simp
  have u1 := used_is h (kidP s nm i)
  have u2 := used_is h (byQ s s.qs[i].name)
  have u3 := used_is h (kidP s nm (i + 1))
  have eu : usedByV s s.qs[i].name = (fF (fun c => c.mem) (byQ s s.qs[i].name) s.cs, fF (fun c => c.cpu) (byQ s s.qs[i].name) s.cs) := by unfold usedByV; rw [u2.1]
  have ek : ∀ f : Con → Int, fF f (kidP s nm (i + 1)) s.cs = fF f (kidP s nm i) s.cs + fF f (byQ s s.qs[i].name) s.cs := fun f => by
    rw [fF_congr e, fF_or (fun c _ hk => kid_disj hq hi hp hk)]
  have ek1 := ek (fun c => c.mem)
  have ek2 := ek (fun c => c.cpu)
  rw [ek1, ek2] at u3
  have hk : kidsU s nm i = (fF (fun c => c.mem) (kidP s nm i) s.cs, fF (fun c => c.cpu) (kidP s nm i) s.cs) := rfl
  have hk' : kidsU s nm (i + 1) = (fF (fun c => c.mem) (kidP s nm (i + 1)) s.cs, fF (fun c => c.cpu) (kidP s nm (i + 1)) s.cs) := rfl
  rw [hk', hk, eu, ek1, ek2]
  refine ⟨?_, by simp only [Int.one_mul]⟩
  simp only [bothOk, Int.one_mul, u1.2, u2.2, u3.2, Bool.and_self]
theorem kids_last {s : St} (h : stateOkV s = true) {nm : List UInt8} (hl : leaf s.qs nm = false) {n : Nat} (hn : s.qs.length ≤ n) : kidsU s nm n = usedByV s nm := by
  have e : ∀ c ∈ s.cs, kidP s nm n c = byQ s nm c := fun c hc => kid_last h hl hc hn
  have u := used_is h (byQ s nm)
  unfold usedByV
  rw [u.1]
  simp only [kidsU, fF_congr e]
theorem find_own : ∀ {ms : List Mac}, ms.Pairwise (fun a b => a.name ≠ b.name) → ∀ m ∈ ms, findM m.name ms = some m
  | [], _, m, hm => by simp at hm
  | x :: t, hp, m, hm => by
    rw [List.pairwise_cons] at hp
    unfold findM
    rcases List.mem_cons.1 hm with rfl | hm
    · rw [List.find?_cons_of_pos (by simp)]
    · rw [List.find?_cons_of_neg (by simpa using hp.1 m hm)]
      exact find_own hp.2 m hm
/-- what is free and what is used on a machine is all that it can -/
theorem free_used {s : St} (h : stateOkV s = true) {m : Mac} (hm : m ∈ s.ms) :
    bothOk 1 (freeOnV s m.name).1 (freeOnV s m.name).2 (usedOnV s m.name).1 (usedOnV s m.name).2 = true ∧ (freeOnV s m.name).1 + 1 * (usedOnV s m.name).1 = m.mem ∧ (freeOnV s m.name).2 + 1 * (usedOnV s m.name).2 = m.cpu := by
  have hf := find_own (okParts h).2.2.2 m hm
  have hh : holdM s.cs m = true := by
    simp only [stateOkV, stateOkS, Bool.and_eq_true, appsOkV, machsOkS] at h
    exact ((machsS_iff _ _).1 h.2.2.2.2.2.2.1.1).2 m hm
  simp only [holdM, Bool.and_eq_true, within, decide_eq_true_eq] at hh
  obtain ⟨hc, _, ⟨⟨hu, _⟩, h1⟩, h2⟩ := hh
  have eu : usedOnV s m.name = ((sumR (usedL (fun q => decide (q.node = m.name)) s.cs)).1, (sumR (usedL (fun q => decide (q.node = m.name)) s.cs)).2.1) := rfl
  obtain ⟨a, ha⟩ : ∃ a, (sumR (usedL (fun q => decide (q.node = m.name)) s.cs)).1 = a := ⟨_, rfl⟩
  obtain ⟨b, hb⟩ : ∃ b, (sumR (usedL (fun q => decide (q.node = m.name)) s.cs)).2.1 = b := ⟨_, rfl⟩
  rw [ha, hb] at eu hu
  rw [ha] at h1
  rw [hb] at h2
  have bc := resOk_bd hc
  have bu := resOk_bd hu
  have hd : resOk (m.mem + -1 * a) (m.cpu + -1 * b) = true := by simp only [resOk, inB, Bool.and_eq_true, decide_eq_true_eq]; omega
  have hb1 : bothOk (-1) m.mem m.cpu a b = true := by simp only [bothOk, hc, hu, hd, Bool.and_self]
  have ef : freeOnV s m.name = (m.mem + -1 * a, m.cpu + -1 * b) := by
    unfold freeOnV
    rw [hf]
    simp only [eu, lessV, hb1, if_true]
  have hs : resOk (m.mem + -1 * a + 1 * a) (m.cpu + -1 * b + 1 * b) = true := by
    rw [show m.mem + -1 * a + 1 * a = m.mem by omega, show m.cpu + -1 * b + 1 * b = m.cpu by omega]; exact hc
  rw [ef, eu]
  refine ⟨?_, by simp only; omega, by simp only; omega⟩
  simp only [bothOk, hd, hu, hs, Bool.and_self]
end Go.Proofs.YtcplnodfcchdhaaGreat

/-
  The laws' own sameTexts and sameQueues, at lists that hold the same; walks over the dump.
-/
namespace Go.Proofs.YtcplnodfcchdhaaGreat
open Go.RowKit
set_option linter.unusedVariables false
set_option linter.unusedSimpArgs false
/-- two places hold one text; nothing of w has turned -/
def TTwo (w0 : World) (b p c r : Nat) (x : ByteArray) (w : World) : Prop := (w.cell? ⟨b, p, none⟩ = some (.string x) ∧ w.cell? ⟨c, r, none⟩ = some (.string x)) ∧ Below w0.heap.size w0 w
theorem TTwo.drew {w0 w : World} {b p c r : Nat} {x : ByteArray} (h : TTwo w0 b p c r x w) : TTwo w0 b p c r x w.drew := ⟨h.1, h.2.drew⟩
theorem TTwo.read (w0 : World) (b p c r : Nat) (x : ByteArray) : ∀ wx, TTwo w0 b p c r x wx → wx.cell? ⟨b, p, none⟩ = some (.string x) ∧ wx.cell? ⟨c, r, none⟩ = some (.string x) := fun wx h => h.1

/-- two places hold one queue; nothing of w has turned -/
def QTw (w0 : World) (b p c r : Nat) (q : Q) (w : World) : Prop := QAt w b p q ∧ QAt w c r q ∧ Below w0.heap.size w0 w
theorem QTw.drew {w0 w : World} {b p c r : Nat} {q : Q} (h : QTw w0 b p c r q w) : QTw w0 b p c r q w.drew := ⟨h.1.below (Below.refl _ _).drew, h.2.1.below (Below.refl _ _).drew, h.2.2.drew⟩
theorem QTw.read (w0 : World) (b p c r : Nat) (q : Q) : ∀ wx, QTw w0 b p c r q wx → (wx.cell? ⟨b, p, none⟩ = some (.string (bs q.name)) ∧ wx.cell? ⟨b, p + 1, none⟩ = some (.string (bs q.parent)) ∧ wx.cell? ⟨b, p + 2, none⟩ = some (.int .i64 q.due) ∧ wx.cell? ⟨b, p + 3, none⟩ = some (.int .i64 q.most)) ∧ wx.cell? ⟨c, r, none⟩ = some (.string (bs q.name)) ∧ wx.cell? ⟨c, r + 1, none⟩ = some (.string (bs q.parent)) ∧ wx.cell? ⟨c, r + 2, none⟩ = some (.int .i64 q.due) ∧ wx.cell? ⟨c, r + 3, none⟩ = some (.int .i64 q.most) := fun wx h => ⟨h.1, h.2.1⟩
set_option maxRecDepth 100000 in
set_option maxHeartbeats 2000000 in
theorem sameQueues_same (ao bo : Option Addr) (len cap ccap : Nat) (l : List Q) (w : World) (h : QRow w ao len l) (h' : QRow w bo len l) (hl : len ≤ 1048576) :
    Calls Tryz.prog 74 #[.slice ao len cap, .slice bo len ccap] w fun e w' => e = .returned (.bool true) ∧ Below w.heap.size w w' := by
  have HR := hide h
  have HR' := hide h'
  have HL := hide h.1
  clear h h'
  go_enter Tryz.func74, Tryz.ntmps74
  go_wp2
  go_loopw [5] (fun i wr => ∃ k : Nat, k ≤ len ∧ i = .int .i64 k ∧ Hid (Below w.heap.size w wr)) (fun i _ => len - (intOf i).toNat)
  case atStart => exact ⟨0, Nat.zero_le _, rfl, hide (Below.refl _ _)⟩
  case round =>
    obtain ⟨k, hk, rfl, HB⟩ := hrel
    by_cases hlt : k < len
    · obtain ⟨b, off, rfl, hq⟩ := ((unhide HR).below (unhide HB)).at hlt
      obtain ⟨c, coff, rfl, hq'⟩ := ((unhide HR').below (unhide HB)).at hlt
      have hkl : k < l.length := by have := unhide HL; omega
      have A0 := hide (show QTw w b (off + k * 4) c (coff + k * 4) l[k] wr from ⟨hq hkl, hq' hkl, unhide HB⟩)
      obtain ⟨q, hs⟩ : ∃ q, l[k] = q := ⟨_, rfl⟩
      rw [hs] at A0
      have R := QTw.read w b (off + k * 4) c (coff + k * 4) q
      have k0 : (0 : Int) ≤ k := by omega
      have k1 : (k : Int) < len := by omega
      clear hq hq' hs hkl
      go_wp2_with fail
      go_region_held3 (fun wx => QTw w b (off + k * 4) c (coff + k * 4) q wx)
        (first | (with_reducible assumption) | exact (unhide A0).drew)
        (fail)
      have HB2 := hide (unhide A0).2.2.drew
      clear R A0 HR HR'
      go_wp2
      go_roundw
      case rel => exact ⟨k + 1, by omega, by go_num, HB2⟩
      case measure => simp [intOf]; omega
    · go_wp2
      go_ret
      exact ⟨rfl, unhide HB⟩
end Go.Proofs.YtcplnodfcchdhaaGreat
