/-
  What is due is no more than what may be had at most; the kids of a queue are due together no more than it: plain mathematics.
-/
import Derived.Test.YtbapainfiepadaaUpM
import Derived.Test.YtbapainfiepadaaWithM
import Derived.Test.YtbapainfiepadaaBothM
namespace Go.Proofs.Ytbapainfiepadaa
open Go.RowKit
set_option linter.unusedVariables false

theorem resOk_mk' {a b : Int} (h : 0 ≤ a ∧ a ≤ 1000000000 ∧ 0 ≤ b ∧ b ≤ 1000000000) : resOk a b = true := by simp [resOk, inB, h.1, h.2.1, h.2.2.1, h.2.2.2]
theorem div_bd {a n : Int} (ha : 0 ≤ a) (h0 : 0 ≤ n) (h1 : n ≤ 10000) : 0 ≤ a * n / 10000 ∧ a * n / 10000 ≤ a ∧ 10000 * (a * n / 10000) ≤ a * n := by
  have p0 : 0 ≤ a * n := Int.mul_nonneg ha h0
  have p1 : a * n ≤ a * 10000 := Int.mul_le_mul_of_nonneg_left h1 ha
  generalize a * n = p at *
  omega
theorem div_mono {a n c m : Int} (ha : 0 ≤ a) (h0 : 0 ≤ n) (hac : a ≤ c) (hnm : n ≤ m) : a * n / 10000 ≤ c * m / 10000 := by
  have p1 : a * n ≤ c * m := Int.mul_le_mul hac hnm h0 (by omega)
  generalize a * n = p at *
  generalize c * m = q at *
  omega
theorem share_yes {a b n : Int} (h : resOk a b = true) (h0 : 0 ≤ n) (h1 : n ≤ 10000) : shareM a b n = a * n / 10000 ∧ shareC a b n = b * n / 10000 := by
  have : shareOk a b n = true := by simp [shareOk, h, inB, h0, h1]
  simp [shareM, shareC, this]
theorem share_ok {a b n : Int} (h : resOk a b = true) (h0 : 0 ≤ n) (h1 : n ≤ 10000) : resOk (shareM a b n) (shareC a b n) = true ∧ shareM a b n ≤ a ∧ shareC a b n ≤ b := by
  obtain ⟨q1, q2, q3, q4⟩ := resOk_bd h
  rw [(share_yes h h0 h1).1, (share_yes h h0 h1).2]
  obtain ⟨d1, d2, _⟩ := div_bd q1 h0 h1
  obtain ⟨e1, e2, _⟩ := div_bd q3 h0 h1
  exact ⟨resOk_mk' ⟨d1, by omega, e1, by omega⟩, d2, e2⟩
theorem part_ok {t : Int × Int} (ht : resOk t.1 t.2 = true) : ∀ st : List Int, (∀ n ∈ st, 0 ≤ n ∧ n ≤ 10000) → resOk (partS t st).1 (partS t st).2 = true ∧ (partS t st).1 ≤ t.1 ∧ (partS t st).2 ≤ t.2
  | [], _ => ⟨ht, Int.le_refl _, Int.le_refl _⟩
  | n :: r, h => by
    obtain ⟨i1, i2, i3⟩ := part_ok ht r (fun x hx => h x (List.mem_cons_of_mem _ hx))
    obtain ⟨h0, h1⟩ := h n (List.mem_cons_self ..)
    obtain ⟨s1, s2, s3⟩ := share_ok i1 h0 h1
    exact ⟨s1, Int.le_trans s2 i2, Int.le_trans s3 i3⟩
theorem part_mono {t : Int × Int} (ht : resOk t.1 t.2 = true) : ∀ u : List Q, (∀ q ∈ u, 0 ≤ q.due ∧ q.due ≤ q.most ∧ q.most ≤ 10000) → (partS t (u.map (fieldOf false))).1 ≤ (partS t (u.map (fieldOf true))).1 ∧ (partS t (u.map (fieldOf false))).2 ≤ (partS t (u.map (fieldOf true))).2
  | [], _ => ⟨Int.le_refl _, Int.le_refl _⟩
  | q :: r, h => by
    obtain ⟨i1, i2⟩ := part_mono ht r (fun x hx => h x (List.mem_cons_of_mem _ hx))
    obtain ⟨h0, h1, h2⟩ := h q (List.mem_cons_self ..)
    have oa := (part_ok ht (r.map (fieldOf false)) (fun n hn => by obtain ⟨x, hx, rfl⟩ := List.mem_map.1 hn; have := h x (List.mem_cons_of_mem _ hx); simp [fieldOf]; omega)).1
    have ob := (part_ok ht (r.map (fieldOf true)) (fun n hn => by obtain ⟨x, hx, rfl⟩ := List.mem_map.1 hn; have := h x (List.mem_cons_of_mem _ hx); simp [fieldOf]; omega)).1
    have ea := share_yes (n := q.due) oa h0 (by omega)
    have eb := share_yes (n := q.most) ob (by omega) h2
    have ba := resOk_bd oa
    simp only [List.map_cons, partS, fieldOf, if_true, Bool.false_eq_true, if_false]
    rw [ea.1, ea.2, eb.1, eb.2]
    exact ⟨div_mono ba.1 h0 i1 h1, div_mono ba.2.2.1 h0 i2 h1⟩
theorem ok_pts {l : List Q} (h : queuesOk l = true) : ∀ q ∈ l, 0 ≤ q.due ∧ q.due ≤ q.most ∧ q.most ≤ 10000 := fun q hq => by
  obtain ⟨i, hi, rfl⟩ := List.mem_iff_getElem.1 hq
  have := ok_at h i hi
  simp only [qOk, Bool.and_eq_true, decide_eq_true_eq, inB] at this
  obtain ⟨⟨⟨_, a3⟩, a4⟩, _⟩ := this
  omega
theorem steps_in {l : List Q} (h : queuesOk l = true) (nm : List UInt8) (most : Bool) : ∀ n ∈ stepsOf most (ups l nm), 0 ≤ n ∧ n ≤ 10000 := fun n hn => by
  obtain ⟨q, hq, rfl⟩ := List.mem_map.1 hn
  have := ok_pts h q (ups_mem _ _ _ q ((List.takeWhile_prefix _).subset hq))
  cases most <;> simp [fieldOf] <;> omega
theorem due_most {l : List Q} {nm : List UInt8} {a b : Int} (h : queuesOk l = true) (hp : 0 ≤ place l nm) (hr : resOk a b = true) :
    resOk (ofR l nm a b false).1 (ofR l nm a b false).2 = true ∧ within (ofR l nm a b false).1 (ofR l nm a b false).2 (ofR l nm a b true).1 (ofR l nm a b true).2 = true ∧ within (ofR l nm a b true).1 (ofR l nm a b true).2 a b = true := by
  rw [ups_part h nm a b false hp hr, ups_part h nm a b true hp hr]
  have o1 := part_ok (t := (a, b)) hr _ (steps_in h nm false)
  have o2 := part_ok (t := (a, b)) hr _ (steps_in h nm true)
  have o3 := part_mono (t := (a, b)) hr ((ups l nm).takeWhile (fun q => decide (q.parent ≠ []))) (fun q hq => ok_pts h q (ups_mem _ _ _ q ((List.takeWhile_prefix _).subset hq)))
  refine ⟨o1.1, ?_, ?_⟩
  · rw [within, o1.1, o2.1]
    simp only [Bool.true_and, Bool.and_eq_true, decide_eq_true_eq]
    exact o3
  · rw [within, o2.1, show resOk a b = true from hr]
    simp only [Bool.true_and, Bool.and_eq_true, decide_eq_true_eq]
    exact o2.2
theorem kid_ups {l : List Q} {nm : List UInt8} (h : queuesOk l = true) {i : Nat} (hi : i < l.length) (hpar : l[i].parent = nm) : ups l l[i].name = l[i] :: ups l nm := by
  have hq := ok_at h i hi
  simp only [qOk, Bool.and_eq_true, decide_eq_true_eq] at hq
  have hpl : place l l[i].name = i := hq.1.1.1.2
  have ha := parent_ahead h hi
  rw [hpar] at ha
  have e1 := upsFrom_upAt h l.length i nm ha
  have e2 := upsFrom_upAt h (l.length + 1) i nm ha
  have e3 := upsFrom_more l.length (l.length + 1) (l.take i) nm (by simp; omega) (by simp; omega)
  rw [ups_up h, ups_up h, upAt, hpl, dif_pos ⟨by omega, by simpa using hi⟩]
  simp only [Int.toNat_natCast]
  rw [hpar, ← e1, e3, e2]
theorem kid_of {l : List Q} {nm : List UInt8} {a b : Int} (h : queuesOk l = true) (hp : 0 ≤ place l nm) (hr : resOk a b = true) {i : Nat} (hi : i < l.length) (hpar : l[i].parent = nm) (most : Bool) :
    ofR l l[i].name a b most = (shareM (ofR l nm a b most).1 (ofR l nm a b most).2 (fieldOf most l[i]), shareC (ofR l nm a b most).1 (ofR l nm a b most).2 (fieldOf most l[i])) := by
  have hq := ok_at h i hi
  simp only [qOk, Bool.and_eq_true, decide_eq_true_eq] at hq
  have hpl : place l l[i].name = i := hq.1.1.1.2
  have hne : l[i].parent ≠ [] := by
    rw [hpar]
    intro e
    rw [e, show place l [] = -1 from placeFrom_none (ok_named h)] at hp
    omega
  rw [ups_part h _ a b most (by omega) hr, ups_part h nm a b most hp hr, kid_ups h hi hpar]
  simp only [stepsOf, List.takeWhile_cons]
  simp only [hne, ne_eq, not_false_eq_true, decide_true, if_true, List.map_cons, partS]
theorem kid_most {l : List Q} {nm : List UInt8} {a b : Int} (h : queuesOk l = true) (hp : 0 ≤ place l nm) (hr : resOk a b = true) {i : Nat} (hi : i < l.length) (hpar : l[i].parent = nm) :
    within (ofR l l[i].name a b true).1 (ofR l l[i].name a b true).2 (ofR l nm a b true).1 (ofR l nm a b true).2 = true := by
  rw [kid_of h hp hr hi hpar]
  have hm : resOk (ofR l nm a b true).1 (ofR l nm a b true).2 = true := by
    have := (due_most (a := a) (b := b) h hp hr).2.2
    simp only [within, Bool.and_eq_true] at this
    exact this.1.1.1
  have := ok_pts h l[i] (List.getElem_mem _)
  obtain ⟨s1, s2, s3⟩ := share_ok (n := fieldOf true l[i]) hm (by simp [fieldOf]; omega) (by simp [fieldOf]; omega)
  simp only
  rw [within, s1, hm]
  simp [s2, s3]
/-- what the kids up to a place are due together, against their points -/
def SumInv (d1 d2 ds s1 s2 : Int) : Prop := 0 ≤ s1 ∧ 10000 * s1 ≤ d1 * ds ∧ 0 ≤ s2 ∧ 10000 * s2 ≤ d2 * ds
theorem suminv_zero (d1 d2 : Int) : SumInv d1 d2 0 0 0 := ⟨by omega, by simp, by omega, by simp⟩
theorem suminv_step {d1 d2 ds s1 s2 n : Int} (h : SumInv d1 d2 ds s1 s2) (hd : resOk d1 d2 = true) (h0 : 0 ≤ n) (h1 : n ≤ 10000) : SumInv d1 d2 (ds + n) (s1 + 1 * shareM d1 d2 n) (s2 + 1 * shareC d1 d2 n) := by
  obtain ⟨a1, a2, a3, a4⟩ := h
  obtain ⟨q1, q2, q3, q4⟩ := resOk_bd hd
  rw [(share_yes hd h0 h1).1, (share_yes hd h0 h1).2]
  obtain ⟨x1, x2, x3⟩ := div_bd q1 h0 h1
  obtain ⟨y1, y2, y3⟩ := div_bd q3 h0 h1
  have e1 : d1 * (ds + n) = d1 * ds + d1 * n := Int.mul_add ..
  have e2 : d2 * (ds + n) = d2 * ds + d2 * n := Int.mul_add ..
  refine ⟨by omega, ?_, by omega, ?_⟩
  · rw [e1]; generalize d1 * ds = p at *; generalize d1 * n = r at *; omega
  · rw [e2]; generalize d2 * ds = p at *; generalize d2 * n = r at *; omega
theorem suminv_le {d1 d2 ds s1 s2 : Int} (h : SumInv d1 d2 ds s1 s2) (hd : resOk d1 d2 = true) (h0 : 0 ≤ ds) (h1 : ds ≤ 10000) : resOk s1 s2 = true ∧ s1 ≤ d1 ∧ s2 ≤ d2 := by
  obtain ⟨a1, a2, a3, a4⟩ := h
  obtain ⟨q1, q2, q3, q4⟩ := resOk_bd hd
  have p1 : d1 * ds ≤ d1 * 10000 := Int.mul_le_mul_of_nonneg_left h1 q1
  have p2 : d2 * ds ≤ d2 * 10000 := Int.mul_le_mul_of_nonneg_left h1 q3
  have z1 : s1 ≤ d1 := by generalize d1 * ds = p at *; omega
  have z2 : s2 ≤ d2 := by generalize d2 * ds = p at *; omega
  exact ⟨resOk_mk' ⟨a1, by omega, a3, by omega⟩, z1, z2⟩
theorem dueSum_nonneg {nm : List UInt8} : ∀ {l : List Q}, (∀ q ∈ l, 0 ≤ q.due) → 0 ≤ dueSum nm l
  | [], _ => by simp [dueSum]
  | q :: t, h => by
    have := dueSum_nonneg (nm := nm) (l := t) (fun x hx => h x (List.mem_cons_of_mem _ hx))
    have := h q (List.mem_cons_self ..)
    rw [dueSum]
    split <;> omega
theorem kids_le {l : List Q} {nm : List UInt8} (h : queuesOk l = true) (hp : 0 ≤ place l nm) : kidsSum l nm ≤ 10000 := by
  obtain ⟨q, hq, rfl⟩ := place_has hp
  have h2 : sumsOk l l = true := by simp only [queuesOk, Bool.and_eq_true] at h; exact h.1.2
  exact (sumsOk_iff l).1 h2 q hq
theorem ds_le {l : List Q} {nm : List UInt8} (h : queuesOk l = true) (hp : 0 ≤ place l nm) (k : Nat) : kidsSum l nm - dueSum nm (l.drop k) ≤ 10000 := by
  have h1 := kids_le h hp
  have h2 := dueSum_nonneg (nm := nm) (l := l.drop k) (fun q hq => (ok_pts h q (List.mem_of_mem_drop hq)).1)
  omega
theorem kid_step {l : List Q} {nm : List UInt8} {a b d1 d2 m1 m2 s1 s2 : Int} {k : Nat} (h : queuesOk l = true) (hp : 0 ≤ place l nm) (hr : resOk a b = true) (hd : ofR l nm a b false = (d1, d2)) (hm : ofR l nm a b true = (m1, m2))
    (hk : k < l.length) (hpar : l[k].parent = nm) (hds : 0 ≤ kidsSum l nm - dueSum nm (l.drop k)) (hi : SumInv d1 d2 (kidsSum l nm - dueSum nm (l.drop k)) s1 s2) :
    ∃ e1 e2 n1 n2, ofR l l[k].name a b false = (e1, e2) ∧ ofR l l[k].name a b true = (n1, n2) ∧ bothOk 1 s1 s2 e1 e2 = true ∧ within n1 n2 m1 m2 = true ∧ SumInv d1 d2 (kidsSum l nm - dueSum nm (l.drop (k + 1))) (s1 + 1 * e1) (s2 + 1 * e2) ∧ 0 ≤ kidsSum l nm - dueSum nm (l.drop (k + 1)) := by
  have hq := ok_pts h l[k] (List.getElem_mem _)
  have hD := (due_most (a := a) (b := b) h hp hr).1
  rw [hd] at hD
  have hst := dueSum_step (nm := nm) hk
  rw [if_pos hpar] at hst
  have e1 := kid_of (a := a) (b := b) h hp hr hk hpar false
  have e2 := kid_most (a := a) (b := b) h hp hr hk hpar
  rw [hd] at e1
  rw [hm] at e2
  simp only [fieldOf, Bool.false_eq_true, if_false] at e1
  have hs := suminv_step (n := l[k].due) hi hD hq.1 (by omega)
  have hds' : kidsSum l nm - dueSum nm (l.drop k) + l[k].due = kidsSum l nm - dueSum nm (l.drop (k + 1)) := by omega
  rw [hds'] at hs
  have b0 := suminv_le hi hD hds (ds_le h hp k)
  have b1 := suminv_le hs hD (by omega) (ds_le h hp (k + 1))
  have b2 := share_ok (n := l[k].due) hD hq.1 (by omega)
  refine ⟨_, _, _, _, e1, rfl, ?_, e2, hs, by omega⟩
  rw [bothOk, b0.1, b2.1, b1.1]; rfl
theorem kid_skip {l : List Q} {nm : List UInt8} {k : Nat} (hk : k < l.length) (hpar : ¬ l[k].parent = nm) : dueSum nm (l.drop k) = dueSum nm (l.drop (k + 1)) := by
  have hst := dueSum_step (nm := nm) hk
  rw [if_neg hpar] at hst
  omega
theorem due_end {l : List Q} {nm : List UInt8} {a b d1 d2 s1 s2 : Int} {k : Nat} (h : queuesOk l = true) (hp : 0 ≤ place l nm) (hr : resOk a b = true) (hd : ofR l nm a b false = (d1, d2)) (hds : 0 ≤ kidsSum l nm - dueSum nm (l.drop k)) (hi : SumInv d1 d2 (kidsSum l nm - dueSum nm (l.drop k)) s1 s2) : within s1 s2 d1 d2 = true := by
  have hD := (due_most (a := a) (b := b) h hp hr).1
  rw [hd] at hD
  have b0 := suminv_le hi hD hds (ds_le h hp k)
  rw [within, b0.1, hD]
  simp [b0.2.1, b0.2.2]
theorem path_place {l : List Q} {nm : List UInt8} (hne : path l nm ≠ []) : 0 ≤ place l nm := by
  rcases Int.lt_or_le (place l nm) 0 with h | h
  · exact absurd (by rw [path]; split; exact path_end h; rfl) hne
  · exact h
theorem ofR_nopath {l : List Q} {nm : List UInt8} (h : path l nm = []) (a b : Int) (most : Bool) : ofR l nm a b most = (0, 0) := by rw [ofR, h]; simp
theorem sum_start (l : List Q) (nm : List UInt8) (d1 d2 : Int) : SumInv d1 d2 (kidsSum l nm - dueSum nm (l.drop 1)) 0 0 ∧ 0 ≤ kidsSum l nm - dueSum nm (l.drop 1) := by
  rw [show kidsSum l nm - dueSum nm (l.drop 1) = 0 by unfold kidsSum; omega]
  exact ⟨suminv_zero _ _, Int.le_refl _⟩
end Go.Proofs.Ytbapainfiepadaa
