/-
  Several texts of this claim in one: FitsM, IdxI, QBox (pack.py put them together); each says in its own remark what is proved.
-/
import Derived.Test.YtcplnodfcchdhaaGreatPackO
import Derived.Test.YtcplnodfcchdhaaGreatPackL
import Derived.Shelf.Abstract
import Derived.Test.YtcplnodfcchdhaaGreatPackA
/-
  A tree of queues, one queue at a time: what is asked of one more behind a tree, in plain words.
-/
namespace Go.Proofs.YtcplnodfcchdhaaGreat
open Go.RowKit
set_option linter.unusedVariables false
/-- a tree of queues, or nothing, is one with this one behind it -/
def fits (l : List Q) (q : Q) : Bool :=
  decide (l.length < 20) && nameOk q.name && decide (place l q.name < 0) && decide (0 ≤ q.due ∧ q.due ≤ q.most ∧ q.most ≤ 10000)
    && (if l.length = 0 then decide (q.parent = [] ∧ q.due = 10000 ∧ q.most = 10000) else decide (0 ≤ place l q.parent ∧ dueSum q.parent l + q.due ≤ 10000))
/-- a tree of queues, or nothing -/
def okT (l : List Q) : Bool := okFrom l l 0 && sumsOk l l && decide (l.length ≤ 20)
theorem placeFrom_snoc (nm : List UInt8) (q : Q) : ∀ (l : List Q) (k : Nat), placeFrom nm (l ++ [q]) k = if placeFrom nm l k < 0 then (if q.name = nm then ((k + l.length : Nat) : Int) else -1) else placeFrom nm l k
  | [], k => by simp [placeFrom]
  | x :: t, k => by
    rw [List.cons_append, placeFrom, placeFrom]
    by_cases h : x.name = nm
    · rw [if_pos h, if_pos h, if_neg (by omega)]
    · rw [if_neg h, if_neg h, placeFrom_snoc nm q t (k + 1)]
      simp only [List.length_cons, show k + 1 + t.length = k + (t.length + 1) by omega]
theorem place_snoc (l : List Q) (q : Q) (nm : List UInt8) : place (l ++ [q]) nm = if place l nm < 0 then (if q.name = nm then (l.length : Int) else -1) else place l nm := by
  unfold place
  rw [placeFrom_snoc, Nat.zero_add]
theorem placeFrom_mem {nm : List UInt8} : ∀ {l : List Q} {k : Nat}, (∃ q ∈ l, q.name = nm) → 0 ≤ placeFrom nm l k
  | [], _, h => by obtain ⟨q, hq, _⟩ := h; simp at hq
  | x :: t, k, h => by
    rw [placeFrom]
    by_cases e : x.name = nm
    · rw [if_pos e]; omega
    · rw [if_neg e]
      obtain ⟨q, hq, hn⟩ := h
      rcases List.mem_cons.1 hq with rfl | hq
      · exact absurd hn e
      · exact placeFrom_mem ⟨q, hq, hn⟩
theorem place_mem {l : List Q} {nm : List UInt8} (h : ∃ q ∈ l, q.name = nm) : 0 ≤ place l nm := placeFrom_mem h
theorem place_has {l : List Q} {nm : List UInt8} (h : 0 ≤ place l nm) : ∃ q ∈ l, q.name = nm := by
  refine Classical.byContradiction fun hc => ?_
  have : place l nm = -1 := placeFrom_none (fun q hq e => hc ⟨q, hq, e⟩)
  omega
theorem place_not {l : List Q} {nm : List UInt8} (h : place l nm < 0) : ∀ q ∈ l, q.name ≠ nm := fun q hq e => by
  have := place_mem (l := l) (nm := nm) ⟨q, hq, e⟩
  omega
theorem dueSum_append (nm : List UInt8) (q : Q) : ∀ l : List Q, dueSum nm (l ++ [q]) = dueSum nm l + (if q.parent = nm then q.due else 0)
  | [] => by simp [dueSum]
  | x :: t => by rw [List.cons_append, dueSum, dueSum, dueSum_append nm q t]; omega
theorem kidsSum_snoc (l : List Q) (q : Q) (nm : List UInt8) (h : 0 < l.length) : kidsSum (l ++ [q]) nm = kidsSum l nm + (if q.parent = nm then q.due else 0) := by
  cases l with
  | nil => simp at h
  | cons x t => exact dueSum_append nm q t
theorem dueSum_zero {nm : List UInt8} : ∀ {l : List Q}, (∀ q ∈ l, q.parent ≠ nm) → dueSum nm l = 0
  | [], _ => rfl
  | x :: t, h => by rw [dueSum, if_neg (h x (by simp)), dueSum_zero (fun q hq => h q (by simp [hq]))]; omega
theorem okFrom_iff {l : List Q} : ∀ (m : List Q) (k : Nat), okFrom l m k = true ↔ ∀ i (h : i < m.length), qOk l (k + i) m[i] = true
  | [], k => by simp [okFrom]
  | x :: t, k => by
    constructor
    · exact okFrom_at (x :: t) k
    · intro h
      rw [okFrom, Bool.and_eq_true]
      refine ⟨by have := h 0 (by simp); rw [Nat.add_zero] at this; exact this, (okFrom_iff t (k + 1)).2 fun i hi => ?_⟩
      have := h (i + 1) (by simpa using hi)
      rw [show k + 1 + i = k + (i + 1) by omega]
      simpa using this
theorem sumsOk_iff {l : List Q} : ∀ (m : List Q), sumsOk l m = true ↔ ∀ q ∈ m, kidsSum l q.name ≤ 10000
  | [] => by simp [sumsOk]
  | x :: t => by rw [sumsOk, Bool.and_eq_true, sumsOk_iff t]; simp
theorem okT_iff {l : List Q} : okT l = true ↔ (∀ i (h : i < l.length), qOk l i l[i] = true) ∧ (∀ q ∈ l, kidsSum l q.name ≤ 10000) ∧ l.length ≤ 20 := by
  rw [okT, Bool.and_eq_true, Bool.and_eq_true, okFrom_iff l 0, sumsOk_iff l, and_assoc]
  simp
theorem queuesOk_okT (l : List Q) : queuesOk l = (okT l && decide (0 < l.length)) := by
  rw [queuesOk, okT]
  cases okFrom l l 0 <;> cases sumsOk l l <;> simp [inB]
  rw [Bool.eq_iff_iff]; simp; omega
theorem qOk_snoc {l : List Q} {q : Q} {i : Nat} (hi : i < l.length) : qOk (l ++ [q]) i l[i] = qOk l i l[i] := by
  have h1 : 0 ≤ place l l[i].name := place_mem ⟨l[i], List.getElem_mem _, rfl⟩
  have h2 : place (l ++ [q]) l[i].name = place l l[i].name := by rw [place_snoc, if_neg (by omega)]
  have h3 : inB (place (l ++ [q]) l[i].parent) 0 ((i : Int) - 1) = inB (place l l[i].parent) 0 ((i : Int) - 1) := by
    rw [place_snoc]
    by_cases h : place l l[i].parent < 0
    · rw [if_pos h]
      simp only [inB]
      rw [decide_eq_false (p := 0 ≤ place l l[i].parent ∧ _) (by omega)]
      refine decide_eq_false ?_
      split <;> omega
    · rw [if_neg h]
  simp only [qOk, h2, h3]
theorem kid_due {l : List Q} (h : ∀ i (h : i < l.length), qOk l i l[i] = true) : ∀ q ∈ l, nameOk q.name = true ∧ 0 ≤ q.due ∧ q.due ≤ 10000 ∧ (q.parent = [] ∨ ∃ x ∈ l, x.name = q.parent) := fun q hq => by
  obtain ⟨i, hi, rfl⟩ := List.mem_iff_getElem.1 hq
  have := h i hi
  simp only [qOk, Bool.and_eq_true, decide_eq_true_eq, inB] at this
  obtain ⟨⟨⟨⟨a1, a2⟩, a3⟩, a4⟩, a5⟩ := this
  refine ⟨a1, a4.1, by omega, ?_⟩
  by_cases e : i = 0
  · rw [if_pos e] at a5
    simp only [Bool.and_eq_true, decide_eq_true_eq] at a5
    exact .inl a5.1
  · rw [if_neg e] at a5
    simp only [decide_eq_true_eq] at a5
    exact .inr (place_has a5.1)
theorem nameOk_ne {n : List UInt8} (h : nameOk n = true) : n ≠ [] := fun e => by simp [nameOk, e, inB] at h
theorem okT_snoc (l : List Q) (q : Q) : okT (l ++ [q]) = (okT l && fits l q) := by
  rw [Bool.eq_iff_iff, Bool.and_eq_true, okT_iff, okT_iff]
  have hA : (∀ i (h : i < (l ++ [q]).length), qOk (l ++ [q]) i (l ++ [q])[i] = true) ↔ (∀ i (h : i < l.length), qOk l i l[i] = true) ∧ qOk (l ++ [q]) l.length q = true := by
    constructor
    · intro h
      refine ⟨fun i hi => ?_, ?_⟩
      · have := h i (by simp; omega)
        rw [List.getElem_append_left hi, qOk_snoc hi] at this
        exact this
      · have := h l.length (by simp)
        simpa using this
    · rintro ⟨h1, h2⟩ i hi
      by_cases e : i < l.length
      · rw [List.getElem_append_left e, qOk_snoc e]; exact h1 i e
      · have : i = l.length := by simp at hi; omega
        subst this
        simpa using h2
  rw [hA]
  have hP : qOk (l ++ [q]) l.length q = true ↔ nameOk q.name = true ∧ place l q.name < 0 ∧ (0 ≤ q.due ∧ q.due ≤ q.most ∧ q.most ≤ 10000) ∧ (if l.length = 0 then q.parent = [] ∧ q.due = 10000 else 0 ≤ place l q.parent) := by
    simp only [qOk, Bool.and_eq_true, decide_eq_true_eq, inB]
    have e1 : place (l ++ [q]) q.name = (l.length : Int) ↔ place l q.name < 0 := by
      rw [place_snoc]
      have := place_range l q.name
      by_cases h : place l q.name < 0
      · simp [h]
      · rw [if_neg h]; constructor <;> intro _ <;> omega
    rw [e1]
    by_cases h0 : l.length = 0
    · rw [if_pos h0, if_pos h0]
      simp only [Bool.and_eq_true, decide_eq_true_eq]
      constructor
      · rintro ⟨⟨⟨⟨a, b⟩, c⟩, d⟩, e⟩; exact ⟨a, b, by omega, e⟩
      · rintro ⟨a, b, c, e⟩; exact ⟨⟨⟨⟨a, b⟩, by omega⟩, by omega⟩, e⟩
    · rw [if_neg h0, if_neg h0]
      simp only [decide_eq_true_eq]
      have e2 : (0 ≤ place (l ++ [q]) q.parent ∧ place (l ++ [q]) q.parent ≤ (l.length : Int) - 1) ↔ 0 ≤ place l q.parent := by
        rw [place_snoc]
        have := place_range l q.parent
        by_cases h : place l q.parent < 0
        · rw [if_pos h]; constructor
          · intro h'; split at h' <;> omega
          · intro h'; omega
        · rw [if_neg h]; constructor <;> intro _ <;> omega
      rw [e2]
      constructor
      · rintro ⟨⟨⟨⟨a, b⟩, c⟩, d⟩, e⟩; exact ⟨a, b, by omega, e⟩
      · rintro ⟨a, b, c, e⟩; exact ⟨⟨⟨⟨a, b⟩, by omega⟩, by omega⟩, e⟩
  have hF : fits l q = true ↔ l.length < 20 ∧ nameOk q.name = true ∧ place l q.name < 0 ∧ (0 ≤ q.due ∧ q.due ≤ q.most ∧ q.most ≤ 10000) ∧ (if l.length = 0 then q.parent = [] ∧ q.due = 10000 ∧ q.most = 10000 else 0 ≤ place l q.parent ∧ dueSum q.parent l + q.due ≤ 10000) := by
    by_cases h0 : l.length = 0 <;> simp only [fits, h0, if_true, if_false, Bool.and_eq_true, decide_eq_true_eq, and_assoc]
  rw [hP, hF]
  by_cases h0 : l.length = 0
  · have hl : l = [] := List.eq_nil_of_length_eq_zero h0
    subst hl
    simp only [List.length_nil, if_true, List.nil_append, List.length_cons, List.mem_singleton, forall_eq]
    have hk : kidsSum [q] q.name = 0 := rfl
    rw [hk]
    constructor
    · rintro ⟨⟨_, a, b, c, d, e⟩, _⟩
      exact ⟨⟨fun i hi => by simp at hi, fun x hx => by simp at hx, by omega⟩, by omega, a, b, c, d, e, by omega⟩
    · rintro ⟨_, _, a, b, c, d, e, f⟩
      exact ⟨⟨fun i hi => by simp at hi, a, b, c, d, e⟩, by omega, by omega⟩
  · rw [if_neg h0, if_neg h0]
    have hlp : 0 < l.length := by omega
    constructor
    · rintro ⟨⟨h1, a, b, c, d⟩, h2, h3⟩
      have hk := kid_due h1
      have h4 : ∀ x ∈ l, kidsSum l x.name + (if q.parent = x.name then q.due else 0) ≤ 10000 := fun x hx => by
        have := h2 x (by simp [hx])
        rwa [kidsSum_snoc l q x.name hlp] at this
      refine ⟨⟨h1, fun x hx => ?_, by simp at h3; omega⟩, by simp at h3; omega, a, b, c, d, ?_⟩
      · have := h4 x hx
        split at this <;> omega
      · obtain ⟨x, hx, hn⟩ := place_has d
        have := h4 x hx
        rw [hn, if_pos rfl] at this
        have hd : dueSum q.parent l = kidsSum l q.parent := by
          cases l with
          | nil => simp at hlp
          | cons y t =>
            show dueSum q.parent (y :: t) = dueSum q.parent t
            rw [dueSum, if_neg, Int.zero_add]
            intro e
            have hy := h1 0 (by simp)
            simp only [qOk, List.getElem_cons_zero, if_true, Bool.and_eq_true, decide_eq_true_eq] at hy
            exact nameOk_ne (hk x hx).1 (by rw [hn, ← e, hy.2.1])
        omega
    · rintro ⟨⟨h1, h2, h3⟩, h4, a, b, c, d, e⟩
      have hk := kid_due h1
      have hd : kidsSum l q.parent ≤ dueSum q.parent l := by
        cases l with
        | nil => simp at hlp
        | cons y t =>
          show dueSum q.parent t ≤ dueSum q.parent (y :: t)
          rw [dueSum]
          have := (hk y (by simp)).2.1
          split <;> omega
      refine ⟨⟨h1, a, b, c, d⟩, fun x hx => ?_, by simp; omega⟩
      rw [kidsSum_snoc l q x.name hlp]
      rcases List.mem_append.1 hx with hx | hx
      · have := h2 x hx
        split
        · rename_i hq
          rw [hq] at hd e
          omega
        · omega
      · have : x = q := by simpa using hx
        subst this
        have hz : kidsSum l x.name = 0 := by
          cases l with
          | nil => simp at hlp
          | cons y t =>
            refine dueSum_zero (l := t) fun z hz hp => ?_
            rcases (hk z (by simp [hz])).2.2.2 with hn | ⟨u, hu, hn⟩
            · exact nameOk_ne a (by rw [← hp, hn])
            · exact place_not b u hu (by rw [hn, hp])
        have : x.parent ≠ x.name := fun hp => by rw [hp] at d; omega
        rw [if_neg this, hz]
        omega
theorem okT_take_succ {l : List Q} {k : Nat} (h : k < l.length) : okT (l.take (k + 1)) = (okT (l.take k) && fits (l.take k) l[k]) := by
  rw [List.take_succ_eq_append_getElem h, okT_snoc]
/-- where a beginning is none, the whole is none -/
theorem okT_take_false {l : List Q} {k : Nat} (h : okT (l.take k) = false) : okT l = false := by
  by_cases hk : k < l.length
  · have : ∀ n, k ≤ n → n ≤ l.length → okT (l.take n) = false := by
      intro n hn
      induction n with
      | zero => intro _; have : k = 0 := by omega
                subst this; exact h
      | succ m ih =>
        intro hm
        by_cases e : k = m + 1
        · subst e; exact h
        · rw [okT_take_succ (by omega), ih (by omega) (by omega)]; rfl
    have := this l.length (by omega) (Nat.le_refl _)
    rwa [List.take_length] at this
  · rwa [List.take_of_length_le (by omega)] at h
theorem okT_due {l : List Q} (h : okT l = true) : ∀ q ∈ l, 0 ≤ q.due ∧ q.due ≤ 10000 := fun q hq => by
  have := kid_due (okT_iff.1 h).1 q hq
  exact ⟨this.2.1, this.2.2.1⟩
end Go.Proofs.YtcplnodfcchdhaaGreat

/-
  The first queue of which something holds: what the library's IndexFunc and ContainsFunc answer over queues; where a queue stands, by the program; walks over the dump.
-/
namespace Go.Proofs.YtcplnodfcchdhaaGreat
open Go.RowKit
set_option linter.unusedVariables false
def idxFrom (p : Q → Bool) : List Q → Nat → Int
  | [], _ => -1
  | q :: t, k => if p q = true then (k : Int) else idxFrom p t (k + 1)
theorem idxFrom_step {p : Q → Bool} {l : List Q} {k : Nat} (h : k < l.length) : idxFrom p (l.drop k) k = if p l[k] = true then (k : Int) else idxFrom p (l.drop (k + 1)) (k + 1) := by
  rw [List.drop_eq_getElem_cons h, idxFrom]
theorem idxFrom_end {p : Q → Bool} {l : List Q} {k : Nat} (h : l.length ≤ k) : idxFrom p (l.drop k) k = -1 := by
  rw [List.drop_of_length_le h]; rfl
theorem idx_place (nm : List UInt8) : ∀ (l : List Q) (k : Nat), idxFrom (fun q => decide (q.name = nm)) l k = placeFrom nm l k
  | [], _ => rfl
  | q :: t, k => by
    rw [idxFrom, placeFrom, idx_place nm t (k + 1)]
    by_cases h : q.name = nm <;> simp [h]
theorem idx_has (p : Q → Bool) : ∀ (l : List Q) (k : Nat), decide (0 ≤ idxFrom p l k) = l.any p
  | [], _ => by simp [idxFrom]
  | q :: t, k => by
    rw [idxFrom, List.any_cons]
    by_cases h : p q = true
    · rw [if_pos h, h]; simp
    · rw [if_neg h, idx_has p t (k + 1)]; simp [h]

set_option maxRecDepth 100000 in
set_option maxHeartbeats 2000000 in
theorem indexFunc_any (g : Nat) (lb : Array Value) (eg : ∀ args w, (callFunc g args).run Tryz.prog w = .ok (.enter g args) w) (p : Q → Bool) (ao : Option Addr) (len cap : Nat) (l : List Q) (w : World) (h : QRow w ao len l) (hl : len ≤ 1048576)
    (hp : ∀ wx q, Below w.heap.size w wx → Calls Tryz.prog g (#[qv q] ++ lb) wx fun e w' => e = .returned (.bool (p q)) ∧ Below wx.heap.size wx w') :
    Calls Tryz.prog 131 #[.slice ao len cap, .func (.func g) #[] lb] w fun e w' => e = .returned (.int .i64 (idxFrom p l 0)) ∧ Below w.heap.size w w' := by
  have HR := hide h
  have HL := hide h.1
  have HP := hide hp
  clear h hp
  go_enter Tryz.func131, Tryz.ntmps131
  go_wp2
  go_loopw [5, 8] (fun _ i wr => ∃ k : Nat, k ≤ len ∧ i = .int .i64 k ∧ Hid (idxFrom p l 0 = idxFrom p (l.drop k) k) ∧ Hid (Below w.heap.size w wr)) (fun _ i _ => len - (intOf i).toNat)
  case atStart => exact ⟨0, Nat.zero_le _, rfl, hide (by simp), hide (Below.refl _ _)⟩
  case round =>
    obtain ⟨k, hk, rfl, hq, HB⟩ := hrel
    by_cases hlt : k < len
    · obtain ⟨b, off, rfl, hx⟩ := ((unhide HR).below (unhide HB)).at hlt
      have hkl : k < l.length := by have := unhide HL; omega
      have hst := hide (idxFrom_step (p := p) (l := l) (k := k) hkl)
      obtain ⟨c0, c1, c2, c3⟩ := hx hkl
      clear hx
      obtain ⟨⟨nm, pa, du, mo⟩, hs⟩ : ∃ s, l[k] = s := ⟨_, rfl⟩
      rw [hs] at c0 c1 c2 c3 hst
      simp only at c0 c1 c2 c3
      have HC := hide (unhide HP wr ⟨nm, pa, du, mo⟩ (unhide HB))
      clear hs hkl HP
      cases hpq : p ⟨nm, pa, du, mo⟩ with
      | true =>
        rw [hpq] at HC
        have HQ := hide hpq
        clear hpq
        go_wp2_with (go_at_fn g; refine (unhide HC).mono ?_; rintro e w' ⟨rfl, hb⟩)
        go_ret
        exact ⟨ret_int (by rw [unhide hq, unhide hst, if_pos (unhide HQ)]), below_on (unhide HB) hb⟩
      | false =>
        rw [hpq] at HC
        have HQ := hide hpq
        clear hpq
        go_wp2_with (go_at_fn g; refine (unhide HC).mono ?_; rintro e w' ⟨rfl, hb⟩)
        go_roundw
        case rel => exact ⟨k + 1, by omega, by go_num, hide (by rw [unhide hq, unhide hst, if_neg (by rw [unhide HQ]; simp)]), hide (below_on (unhide HB) hb)⟩
        case measure => simp [intOf]; omega
    · go_wp2
      go_ret
      exact ⟨ret_int (by rw [unhide hq, idxFrom_end (by have := unhide HL; omega)]), unhide HB⟩

set_option maxRecDepth 100000 in
set_option maxHeartbeats 1000000 in
theorem placeFn_any (B : Nat) (nm : List UInt8) (q : Q) (w : World) (hc : w.cell? ⟨B, 0, none⟩ = some (.string (bs nm))) :
    Calls Tryz.prog 132 #[qv q, .pointer (some ⟨B, 0, none⟩)] w fun e w' => e = .returned (.bool (decide (q.name = nm))) ∧ Below w.heap.size w w' := by
  have hlt := cell_lt hc
  have hc2 : (w.alloc (.cells #[.string (bs q.name), .string (bs q.parent), .int .i64 q.due, .int .i64 q.most] 59)).cell? ⟨B, 0, none⟩ = some (.string (bs nm)) := by rw [World.cell?_alloc_lt _ _ ⟨B, 0, none⟩ hlt]; exact hc
  have hbe := bs_eq q.name nm
  clear hc hlt
  go_enter Tryz.func132, Tryz.ntmps132
  go_wp2
  go_ret
  exact ⟨rfl, below_al (Below.refl _ _) _⟩

set_option maxRecDepth 100000 in
set_option maxHeartbeats 1000000 in
theorem place_any (ao : Option Addr) (len cap : Nat) (l : List Q) (nm : List UInt8) (w : World) (h : QRow w ao len l) (hl : len ≤ 1048576) :
    Calls Tryz.prog 118 #[.slice ao len cap, .string (bs nm)] w fun e w' => e = .returned (.int .i64 (place l nm)) ∧ Below w.heap.size w w' := by
  have hmf : ∀ (fn : Fn) (first cap : Array Value) (w : World), (Instr.makeFunc fn first cap).run Tryz.prog w = .ok (.func fn first cap) w := fun _ _ _ _ => rfl
  have hb0 := below_al (Below.refl _ w) (.cells #[.string (bs nm)] 9)
  have C := hide (indexFunc_any 132 #[.pointer (some ⟨w.heap.size, 0, none⟩)] (enters_of Tryz.func132 (by kernel_rfl) rfl) (fun q => decide (q.name = nm)) ao len cap l _ (h.below hb0) hl
    (fun wx q hb => placeFn_any w.heap.size nm q wx ((hb.cell (p := ⟨w.heap.size, 0, none⟩) (by simp)).trans (by simp))))
  rw [idx_place] at C
  obtain ⟨p, hp⟩ : ∃ p, placeFrom nm l 0 = p := ⟨_, rfl⟩
  rw [show place l nm = p from hp]
  rw [hp] at C
  have HB0 := hide hb0
  clear h hb0 hp
  go_enter Tryz.func118, Tryz.ntmps118
  go_wp2_with fail
  refine (unhide C).mono ?_
  rintro e w1 ⟨rfl, hb⟩
  have HB := hide (below_on (unhide HB0) hb)
  clear hb
  go_wp2
  go_ret
  exact ⟨rfl, unhide HB⟩
end Go.Proofs.YtcplnodfcchdhaaGreat

/-
  A variable that holds a queue.
-/
namespace Go.Proofs.YtcplnodfcchdhaaGreat
open Go.RowKit
set_option linter.unusedVariables false
abbrev qobj (q : Q) : Obj := .cells #[.string (bs q.name), .string (bs q.parent), .int .i64 q.due, .int .i64 q.most] 59
def QBox (w : World) (g : Nat) (q : Q) : Prop := w.heap[g]? = some (qobj q)
theorem QBox.new (w : World) (q : Q) : QBox (w.alloc (qobj q)) w.heap.size q := by show (w.heap.push _)[w.heap.size]? = _; simp
theorem QBox.lt {w : World} {g : Nat} {q : Q} (h : QBox w g q) : g < w.heap.size := lt_of_block h
theorem QBox.below {w w' : World} {g : Nat} {q : Q} (h : QBox w g q) (hb : Below w.heap.size w w') : QBox w' g q := (hb.block g h.lt).trans h
theorem QBox.c0 {w : World} {g : Nat} {q : Q} (h : QBox w g q) : w.cell? ⟨g, 0, none⟩ = some (.string (bs q.name)) := by unfold QBox at h; simp [World.cell?, h]
theorem QBox.c1 {w : World} {g : Nat} {q : Q} (h : QBox w g q) : w.cell? ⟨g, 1, none⟩ = some (.string (bs q.parent)) := by unfold QBox at h; simp [World.cell?, h]
theorem QBox.c2 {w : World} {g : Nat} {q : Q} (h : QBox w g q) : w.cell? ⟨g, 2, none⟩ = some (.int .i64 q.due) := by unfold QBox at h; simp [World.cell?, h]
theorem QBox.c3 {w : World} {g : Nat} {q : Q} (h : QBox w g q) : w.cell? ⟨g, 3, none⟩ = some (.int .i64 q.most) := by unfold QBox at h; simp [World.cell?, h]
/-- the variable holds the queue, and nothing of w0 has turned -/
def QB (w0 : World) (g : Nat) (q : Q) (w : World) : Prop := QBox w g q ∧ Below w0.heap.size w0 w
theorem QB.call {w0 w w' : World} {g : Nat} {q : Q} (h : QB w0 g q w) (hb : Below w.heap.size w w') : QB w0 g q w' := ⟨h.1.below hb, below_on h.2 hb⟩
theorem QB.drew {w0 w : World} {g : Nat} {q : Q} (h : QB w0 g q w) : QB w0 g q w.drew := h.call (Below.refl _ _).drew
theorem QB.read (w0 : World) (g : Nat) (q : Q) : ∀ wx, QB w0 g q wx → wx.cell? ⟨g, 0, none⟩ = some (.string (bs q.name)) ∧ wx.cell? ⟨g, 1, none⟩ = some (.string (bs q.parent)) ∧ wx.cell? ⟨g, 2, none⟩ = some (.int .i64 q.due) ∧ wx.cell? ⟨g, 3, none⟩ = some (.int .i64 q.most) := fun wx h => ⟨h.1.c0, h.1.c1, h.1.c2, h.1.c3⟩
end Go.Proofs.YtcplnodfcchdhaaGreat
