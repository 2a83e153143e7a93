/-
  Several texts of this claim in one: Base, HeapM, OrdM, BlM, StvO (pack.py put them together); each says in its own remark what is proved.
-/
import Derived.Test.YtbgamlegiikggaaGreatRows
import Derived.WalkKit
import Derived.WalkSpells
import Derived.WalkLawsBesides
import Derived.BigQuiet
import Derived.Sort.Walk0
/-
  Small helpers: texts, bytes, what a call returns.
-/
namespace Go.Proofs.YtbgamlegiikggaaGreat
open Go.RowKit

theorem hide {p : Prop} (h : p) : Hid p := h
theorem unhide {p : Prop} (h : Hid p) : p := h
theorem ret_bool {a b : Bool} (h : a = b) : Ending.returned (.bool a) = .returned (.bool b) := by rw [h]
theorem ret_int {k : IntKind} {a b : Int} (h : a = b) : Ending.returned (.int k a) = .returned (.int k b) := by rw [h]

theorem byte_le (c : UInt8) : (c.toNat : Int) ≤ 255 := by have := c.toNat_lt; omega

def inB (x a b : Int) : Bool := decide (a ≤ x ∧ x ≤ b)
theorem inB_true {x a b : Int} (h1 : a ≤ x) (h2 : x ≤ b) : inB x a b = true := by simp [inB, h1, h2]
theorem inB_false {x a b : Int} (h : ¬ (a ≤ x ∧ x ≤ b)) : inB x a b = false := by simp only [inB, decide_eq_false_iff_not]; exact h

theorem str_eq {a b : ByteArray} (h : a = b) : Value.string a = .string b := by rw [h]
theorem ret_str {a b : ByteArray} (h : a = b) : Ending.returned (.string a) = .returned (.string b) := by rw [h]
def bs (l : List UInt8) : ByteArray := ⟨l.toArray⟩
theorem bs_size (l : List UInt8) : (bs l).size = l.length := by simp [bs, ByteArray.size]
theorem cons_bs (c : UInt8) (l : List UInt8) : (ByteArray.mk #[c]) ++ bs l = bs (c :: l) := by
  unfold bs; rw [ByteArray.mk_append_mk]; simp
theorem take_snoc (s : ByteArray) (k : Nat) (h : k < s.size) : s.data.toList.take (k + 1) = s.data.toList.take k ++ [s[k]] := by
  rw [List.take_succ_eq_append_getElem (by simpa using h)]; rfl
theorem take_all (s : ByteArray) (k : Nat) (h : s.size ≤ k) : s.data.toList.take k = s.data.toList := List.take_of_length_le (by simpa using h)
theorem len_eq (s : ByteArray) : s.data.toList.length = s.size := by simp
theorem str_empty {s : ByteArray} (h : s.size = 0) : s.toList.isEmpty = true := by
  rw [ByteArray.toList_eq]; simp; exact Array.size_eq_zero_iff.1 h
theorem str_full {s : ByteArray} (h : s.size ≠ 0) : s.toList.isEmpty = false := by
  rw [ByteArray.toList_eq]; simp; intro e; exact h (Array.size_eq_zero_iff.2 e)
theorem str_same {l : List UInt8} {s : ByteArray} (h : l = s.data.toList) : ((bs l).toList == s.toList) = true := by
  rw [ByteArray.toList_eq, ByteArray.toList_eq]; simp [bs, h]
theorem str_other {l : List UInt8} {s : ByteArray} (h : l ≠ s.data.toList) : ((bs l).toList == s.toList) = false := by
  rw [ByteArray.toList_eq, ByteArray.toList_eq]; simpa [bs] using h
end Go.Proofs.YtbgamlegiikggaaGreat

/-
  Heaps and lists in order, in plain words: a list of which none comes ahead of its parent; one more, one taken; what is in order is so in one way alone.
-/
namespace Go.Proofs.YtbgamlegiikggaaGreat.HeapM
set_option linter.unusedVariables false
variable {α : Type} (le : α → α → Prop) (d : α)
/-- the element at a place -/
def at' (l : List α) (k : Nat) : α := l.getD k d
def swapL (l : List α) (i j : Nat) : List α := (l.set i (l.getD j d)).set j (l.getD i d)
theorem swap_len (l : List α) (i j : Nat) : (swapL d l i j).length = l.length := by simp [swapL]
theorem swap_at (l : List α) (i j k : Nat) (hi : i < l.length) (hj : j < l.length) : at' d (swapL d l i j) k = if k = j then at' d l i else if k = i then at' d l j else at' d l k := by
  unfold at' swapL
  simp only [List.getD_eq_getElem?_getD, List.getElem?_set, List.length_set]
  by_cases h1 : k = j
  · subst h1; simp [hj]
  · by_cases h2 : k = i
    · subst h2; simp [h1, hi, Ne.symm h1]
    · simp [h1, h2, Ne.symm h1, Ne.symm h2]
theorem swap_perm (l : List α) (i j : Nat) (hi : i < l.length) (hj : j < l.length) : (swapL d l i j).Perm l := by
  have h := Array.swap_perm (xs := l.toArray) (i := i) (j := j) (by simpa using hi) (by simpa using hj)
  have e : (l.toArray.swap i j (by simpa using hi) (by simpa using hj)).toList = swapL d l i j := by
    apply List.ext_getElem?
    intro k
    unfold swapL
    simp [Array.swap, List.getElem?_set, List.getD_eq_getElem?_getD, hi, hj]
  have h2 := h.toList
  rw [e] at h2
  simpa using h2

def par (k : Nat) : Nat := (k - 1) / 2
theorem par_lt {k : Nat} (h : 0 < k) : par k < k := by unfold par; omega
/-- of the first n none comes ahead of its parent -/
def Heap (n : Nat) (l : List α) : Prop := ∀ k, 0 < k → k < n → le (at' d l (par k)) (at' d l k)
/-- so, but for the place j against its parent -/
def UpBut (n : Nat) (l : List α) (j : Nat) : Prop :=
  (∀ k, 0 < k → k < n → k ≠ j → le (at' d l (par k)) (at' d l k)) ∧ (∀ k, 0 < k → k < n → par k = j → 0 < j → le (at' d l (par j)) (at' d l k))
/-- so, but for the kids of the place i -/
def DownBut (n : Nat) (l : List α) (i : Nat) : Prop :=
  (∀ k, 0 < k → k < n → par k ≠ i → le (at' d l (par k)) (at' d l k)) ∧ (∀ k, 0 < k → k < n → par k = i → 0 < i → le (at' d l (par i)) (at' d l k))
structure Order : Prop where
  trans : ∀ x y z, le x y → le y z → le x z
  total : ∀ x y, le x y ∨ le y x
variable {le d}
theorem Order.refl (O : Order le) (x : α) : le x x := (O.total x x).elim id id
theorem up_done {n : Nat} {l : List α} {j : Nat} (h : UpBut le d n l j) (hj : j = 0 ∨ le (at' d l (par j)) (at' d l j)) : Heap le d n l := fun k h0 h1 => by
  by_cases e : k = j
  · subst e
    rcases hj with h | h
    · omega
    · exact h
  · exact h.1 k h0 h1 e
theorem up_step (O : Order le) {n : Nat} {l : List α} {j : Nat} (hn : n ≤ l.length) (h : UpBut le d n l j) (h0 : 0 < j) (h1 : j < n) (hb : le (at' d l j) (at' d l (par j))) : UpBut le d n (swapL d l (par j) j) (par j) := by
  have hp := par_lt h0
  have hsw := fun k => swap_at d l (par j) j k (by omega) (by omega)
  refine ⟨fun k k0 k1 kn => ?_, fun k k0 k1 kp p0 => ?_⟩
  · rw [hsw, hsw]
    by_cases e : k = j
    · subst e
      rw [if_pos rfl, if_neg (by omega), if_pos rfl]
      exact hb
    · rw [if_neg e, if_neg kn]
      have hkp := par_lt k0
      by_cases e1 : par k = j
      · rw [if_pos e1]
        exact h.2 k k0 k1 e1 h0
      · rw [if_neg e1]
        by_cases e2 : par k = par j
        · rw [if_pos e2]
          have := h.1 k k0 k1 e
          rw [e2] at this
          exact O.trans _ _ _ hb this
        · rw [if_neg e2]
          exact h.1 k k0 k1 e
  · rw [hsw, hsw]
    have hpp := par_lt p0
    rw [if_neg (by omega), if_neg (by omega)]
    have hg := h.1 (par j) p0 (by omega) (by omega)
    by_cases e : k = j
    · subst e
      rw [if_pos rfl]
      exact hg
    · rw [if_neg e]
      have hkp := par_lt k0
      rw [if_neg (by omega)]
      have := h.1 k k0 k1 e
      rw [kp] at this
      exact O.trans _ _ _ hg this
/-- the new one at the end -/
theorem up_begin {n : Nat} {l : List α} (h : Heap le d n l) : UpBut le d (n + 1) l n := by
  refine ⟨fun k h0 h1 hn => h k h0 (by omega), fun k h0 h1 hk _ => ?_⟩
  have := par_lt h0
  omega
theorem heap_congr {n : Nat} {l l' : List α} (h : Heap le d n l) (e : ∀ k, k < n → at' d l' k = at' d l k) : Heap le d n l' := fun k h0 h1 => by
  rw [e _ (by have := par_lt h0; omega), e _ h1]
  exact h k h0 h1
theorem down_done {n : Nat} {l : List α} {i : Nat} (h : DownBut le d n l i) (hk : ∀ k, 0 < k → k < n → par k = i → le (at' d l i) (at' d l k)) : Heap le d n l := fun k h0 h1 => by
  by_cases e : par k = i
  · rw [e]; exact hk k h0 h1 e
  · exact h.1 k h0 h1 e
theorem down_step (O : Order le) {n : Nat} {l : List α} {i j : Nat} (hn : n ≤ l.length) (h : DownBut le d n l i) (h0 : 0 < j) (h1 : j < n) (hj : par j = i) (hb : le (at' d l j) (at' d l i)) (hmin : ∀ k, 0 < k → k < n → par k = i → le (at' d l j) (at' d l k)) : DownBut le d n (swapL d l i j) j := by
  have hp := par_lt h0
  have hsw := fun k => swap_at d l i j k (by omega) (by omega)
  refine ⟨fun k k0 k1 kn => ?_, fun k k0 k1 kp p0 => ?_⟩
  · have hkp := par_lt k0
    rw [hsw, hsw, if_neg kn]
    by_cases e : k = j
    · subst e
      rw [if_pos rfl, if_pos hj]
      exact hb
    · rw [if_neg e]
      by_cases e1 : par k = i
      · rw [if_pos e1]
        rw [if_neg (by omega)]
        exact hmin k k0 k1 e1
      · rw [if_neg e1]
        by_cases e2 : k = i
        · rw [if_pos e2]
          subst e2
          exact h.2 j h0 h1 hj k0
        · rw [if_neg e2]
          exact h.1 k k0 k1 e1
  · have hkp := par_lt k0
    rw [hsw, hsw, hj, if_neg (by omega), if_pos rfl, if_neg (by omega), if_neg (by omega)]
    have := h.1 k k0 k1 (by omega)
    rw [kp] at this
    exact this
/-- behind the last one has come to the first place -/
theorem down_begin {n : Nat} {l l' : List α} (h : Heap le d n l) (m : Nat) (hm : m ≤ n) (e : ∀ k, 0 < k → k < m → at' d l' k = at' d l k) : DownBut le d m l' 0 := by
  refine ⟨fun k h0 h1 hn => ?_, fun k h0 h1 hk hz => by omega⟩
  have := par_lt h0
  rw [e _ (by omega) (by omega), e k h0 h1]
  exact h k h0 (by omega)
theorem heap_min (O : Order le) {n : Nat} {l : List α} (h : Heap le d n l) : ∀ k, k < n → le (at' d l 0) (at' d l k) := by
  intro k
  induction k using Nat.strongRecOn with
  | _ k ih =>
    intro hk
    by_cases e : k = 0
    · subst e; exact O.refl _
    · have hp := par_lt (k := k) (by omega)
      exact O.trans _ _ _ (ih _ hp (by omega)) (h k (by omega) hk)
theorem par_kids {i k : Nat} (h : 0 < k) : par k = i ↔ k = 2 * i + 1 ∨ k = 2 * i + 2 := by unfold par; omega
/-- lists in order: each comes no later than all behind it -/
def Sorted (le : α → α → Prop) : List α → Prop
  | [] => True
  | x :: t => (∀ y ∈ t, le x y) ∧ Sorted le t
theorem sorted_unique (anti : ∀ x y, le x y → le y x → x = y) : ∀ (a b : List α), Sorted le a → Sorted le b → a.Perm b → a = b
  | [], b, _, _, h => h.nil_eq
  | x :: t, [], _, _, h => by simpa using h.length_eq
  | x :: t, y :: u, ha, hb, h => by
    have hx : x ∈ y :: u := h.subset (by simp)
    have hy : y ∈ x :: t := h.symm.subset (by simp)
    have e : x = y := by
      rcases List.mem_cons.1 hx with h1 | h1
      · exact h1
      · rcases List.mem_cons.1 hy with h2 | h2
        · exact h2.symm
        · exact anti _ _ (ha.1 y h2) (hb.1 x h1)
    subst e
    have := sorted_unique anti t u ha.2 hb.2 ((List.perm_cons x).1 h)
    rw [this]
theorem sorted_snoc : ∀ (a : List α) (x : α), Sorted le a → (∀ y ∈ a, le y x) → Sorted le (a ++ [x])
  | [], x, _, _ => ⟨by simp, trivial⟩
  | y :: t, x, h, hx => by
    refine ⟨fun z hz => ?_, sorted_snoc t x h.2 (fun z hz => hx z (by simp [hz]))⟩
    rcases List.mem_append.1 hz with h1 | h1
    · exact h.1 z h1
    · simp at h1; subst h1; exact hx y (by simp)

/-- the first one taken: what is left is a heap of one less, and what was taken comes no later than any of it -/
theorem pop_parts (O : Order le) {l l' : List α} (hl : 0 < l.length) (hh : Heap le d l.length l) (hp : l'.Perm (swapL d l 0 (l.length - 1))) (hlast : at' d l' (l.length - 1) = at' d l 0) (hq : Heap le d (l.length - 1) l') :
    Heap le d (l.length - 1) (l'.take (l.length - 1)) ∧ (l'.take (l.length - 1) ++ [at' d l 0]).Perm l ∧ ∀ x ∈ l'.take (l.length - 1), le (at' d l 0) x := by
  have hpl : l'.Perm l := hp.trans (swap_perm d l 0 (l.length - 1) (by omega) (by omega))
  have hlen : l'.length = l.length := hpl.length_eq
  have hsplit : l' = l'.take (l.length - 1) ++ [at' d l 0] := by
    conv => lhs; rw [← List.take_append_drop (l.length - 1) l']
    congr 1
    have h1 : l'.drop (l.length - 1) = [l'[l.length - 1]'(by omega)] := by
      rw [List.drop_eq_getElem_cons (by omega), List.drop_of_length_le (by omega)]
    rw [h1, ← hlast]
    unfold at'
    rw [List.getD_eq_getElem?_getD, List.getElem?_eq_getElem (by omega)]
    rfl
  refine ⟨heap_congr hq (fun k hk => ?_), by rw [← hsplit]; exact hpl, fun x hx => ?_⟩
  · unfold at'
    rw [List.getD_eq_getElem?_getD, List.getD_eq_getElem?_getD, List.getElem?_take_of_lt hk]
  · have hm : x ∈ l := hpl.subset (List.mem_of_mem_take hx)
    obtain ⟨k, hk, e⟩ := List.mem_iff_getElem.1 hm
    have := heap_min O hh k hk
    unfold at' at this
    rw [List.getD_eq_getElem?_getD (i := k), List.getElem?_eq_getElem hk] at this
    rw [← e]
    exact this
end Go.Proofs.YtbgamlegiikggaaGreat.HeapM

/-
  Two orders, one behind the other, in plain words: the lesser first, of those that are alike the lesser name; one put in its place.
-/
namespace Go.Proofs.YtbgamlegiikggaaGreat.OrdM
set_option linter.unusedVariables false
variable {β : Type} (lt : β → β → Bool) (nl : List UInt8 → List UInt8 → Bool)
/-- the lesser first, of those that are alike the lesser name -/
def ahead (x y : List UInt8 × β) : Bool := lt x.2 y.2 || (!lt y.2 x.2 && nl x.1 y.1)
structure Weak : Prop where
  irr : ∀ a, lt a a = false
  asym : ∀ a b, lt a b = true → lt b a = false
  ntrans : ∀ a b c, lt b a = false → lt c b = false → lt c a = false
structure Names : Prop where
  irr : ∀ a, nl a a = false
  trans : ∀ a b c, nl a b = true → nl b c = true → nl a c = true
  tri : ∀ a b, nl a b = false → a ≠ b → nl b a = true
variable {lt nl}
theorem Names.asym (N : Names nl) {a b : List UInt8} (h : nl a b = true) : nl b a = false := by
  cases hb : nl b a with
  | false => rfl
  | true => have := N.trans _ _ _ h hb; rw [N.irr] at this; exact absurd this (by simp)
theorem Names.ntrans (N : Names nl) {a b c : List UInt8} (h : nl b a = false) (k : nl c b = false) : nl c a = false := by
  cases hc : nl c a with
  | false => rfl
  | true =>
    by_cases e : b = a
    · subst e; rw [hc] at k; exact absurd k (by simp)
    · have h1 := N.tri _ _ h e
      have h2 := N.trans _ _ _ hc h1
      rw [h2] at k; exact absurd k (by simp)
theorem ahead_asym (W : Weak lt) (N : Names nl) {x y : List UInt8 × β} (h : ahead lt nl x y = true) : ahead lt nl y x = false := by
  unfold ahead at *
  simp only [Bool.or_eq_true, Bool.and_eq_true, Bool.not_eq_true', Bool.or_eq_false_iff, Bool.and_eq_false_iff, Bool.not_eq_false'] at *
  rcases h with h | ⟨h1, h2⟩
  · exact ⟨W.asym _ _ h, .inl h⟩
  · exact ⟨h1, .inr (N.asym h2)⟩
theorem ahead_ntrans (W : Weak lt) (N : Names nl) {x y z : List UInt8 × β} (h : ahead lt nl y x = false) (k : ahead lt nl z y = false) : ahead lt nl z x = false := by
  unfold ahead at *
  simp only [Bool.or_eq_false_iff, Bool.and_eq_false_iff, Bool.not_eq_false'] at *
  obtain ⟨h1, h2⟩ := h
  obtain ⟨k1, k2⟩ := k
  refine ⟨W.ntrans _ _ _ h1 k1, ?_⟩
  cases hx : lt x.2 z.2 with
  | true => exact .inl rfl
  | false =>
    right
    have hxy : lt x.2 y.2 = false := by
      cases e : lt x.2 y.2 with
      | false => rfl
      | true => have := W.ntrans _ _ _ k1 hx; rw [this] at e; exact absurd e (by simp)
    have hyz : lt y.2 z.2 = false := by
      cases e : lt y.2 z.2 with
      | false => rfl
      | true => have := W.ntrans _ _ _ hx h1; rw [this] at e; exact absurd e (by simp)
    rw [hxy] at h2
    rw [hyz] at k2
    exact N.ntrans (h2.resolve_left (by simp)) (k2.resolve_left (by simp))
theorem ahead_anti (W : Weak lt) (N : Names nl) {x y : List UInt8 × β} (h : ahead lt nl y x = false) (k : ahead lt nl x y = false) : x.1 = y.1 := by
  unfold ahead at *
  simp only [Bool.or_eq_false_iff, Bool.and_eq_false_iff, Bool.not_eq_false'] at *
  obtain ⟨h1, h2⟩ := h
  obtain ⟨k1, k2⟩ := k
  have a1 := h2.resolve_left (by rw [k1]; simp)
  have a2 := k2.resolve_left (by rw [h1]; simp)
  apply Classical.byContradiction
  intro e
  have := N.tri _ _ a2 e
  rw [a1] at this
  exact absurd this (by simp)
/-- one put in its place: ahead of the first that doesn't come ahead of it -/
def ins {α : Type} (p : α → α → Bool) (x : α) : List α → List α
  | [] => [x]
  | y :: t => if p y x = true then y :: ins p x t else x :: y :: t
theorem ins_perm {α : Type} (p : α → α → Bool) (x : α) : ∀ l : List α, (ins p x l).Perm (x :: l)
  | [] => List.Perm.refl _
  | y :: t => by
    unfold ins
    split
    · exact ((ins_perm p x t).cons y).trans (List.Perm.swap x y t)
    · exact List.Perm.refl _
theorem ins_sorted {α : Type} {p : α → α → Bool} (asym : ∀ a b, p a b = true → p b a = false) (nt : ∀ a b c, p b a = false → p c b = false → p c a = false) (x : α) : ∀ l : List α, HeapM.Sorted (fun a b => p b a = false) l → HeapM.Sorted (fun a b => p b a = false) (ins p x l)
  | [], _ => ⟨by simp, trivial⟩
  | y :: t, h => by
    unfold ins
    split
    · rename_i hp
      refine ⟨fun z hz => ?_, ins_sorted asym nt x t h.2⟩
      rcases List.mem_cons.1 ((ins_perm p x t).subset hz) with e | e
      · subst e; exact asym _ _ hp
      · exact h.1 z e
    · rename_i hp
      have hp' : p y x = false := by simpa using hp
      refine ⟨fun z hz => ?_, h⟩
      rcases List.mem_cons.1 hz with e | e
      · subst e; exact hp'
      · exact nt _ _ _ hp' (h.1 z e)
end Go.Proofs.YtbgamlegiikggaaGreat.OrdM

/-
  Texts by their bytes are in one order.
-/
namespace Go.Proofs.YtbgamlegiikggaaGreat
open Go.RowKit
set_option linter.unusedVariables false

theorem bl_irr : ∀ a : List UInt8, Op.bytesLess a a = false
  | [] => rfl
  | c :: t => by simp [Op.bytesLess, bl_irr t]
theorem bl_trans : ∀ a b c : List UInt8, Op.bytesLess a b = true → Op.bytesLess b c = true → Op.bytesLess a c = true
  | _, [], _, h, _ => by simp [Op.bytesLess] at h
  | _, _ :: _, [], _, h => by simp [Op.bytesLess] at h
  | [], _ :: _, _ :: _, _, _ => by simp [Op.bytesLess]
  | x :: a, y :: b, z :: c, h, k => by
    simp only [Op.bytesLess, Bool.or_eq_true, Bool.and_eq_true, decide_eq_true_eq, beq_iff_eq] at h k ⊢
    rcases h with h | ⟨rfl, h⟩
    · rcases k with k | ⟨rfl, k⟩
      · exact .inl (UInt8.lt_trans h k)
      · exact .inl h
    · rcases k with k | ⟨rfl, k⟩
      · exact .inl k
      · exact .inr ⟨rfl, bl_trans a b c h k⟩
theorem bl_tri : ∀ a b : List UInt8, Op.bytesLess a b = false → a ≠ b → Op.bytesLess b a = true
  | [], [], _, h => absurd rfl h
  | [], _ :: _, h, _ => by simp [Op.bytesLess] at h
  | _ :: _, [], _, _ => by simp [Op.bytesLess]
  | x :: a, y :: b, h, k => by
    simp only [Op.bytesLess, Bool.or_eq_false_iff, Bool.and_eq_false_iff, decide_eq_false_iff_not, beq_eq_false_iff_ne] at h
    simp only [Op.bytesLess, Bool.or_eq_true, Bool.and_eq_true, decide_eq_true_eq, beq_iff_eq]
    by_cases hxy : x = y
    · subst hxy
      right
      refine ⟨rfl, bl_tri a b ?_ (fun e => k (by rw [e]))⟩
      rcases h.2 with h2 | h2
      · exact absurd rfl h2
      · exact h2
    · left
      have h1 := h.1
      have : x.toNat ≠ y.toNat := fun e => hxy (UInt8.toNat_inj.1 e)
      rw [UInt8.lt_iff_toNat_lt] at h1 ⊢
      omega
end Go.Proofs.YtbgamlegiikggaaGreat

/-
  Names put in their places one by one are the names in order.
-/
namespace Go.Proofs.YtbgamlegiikggaaGreat
open Go.RowKit
set_option linter.unusedVariables false

theorem sorted_of_pairwise {α : Type} {le : α → α → Prop} : ∀ l : List α, l.Pairwise le → HeapM.Sorted le l
  | [], _ => trivial
  | x :: t, h => ⟨(List.pairwise_cons.1 h).1, sorted_of_pairwise t (List.pairwise_cons.1 h).2⟩
theorem bl_le (x y : List UInt8) : Op.bytesLess y x = false ↔ x ≤ y := by
  rw [bytesLess_eq]
  simp
theorem bl_asym (a b : List UInt8) (h : Op.bytesLess a b = true) : Op.bytesLess b a = false := by
  cases hb : Op.bytesLess b a with
  | false => rfl
  | true => have := bl_trans _ _ _ h hb; rw [bl_irr] at this; exact absurd this (by simp)
theorem bl_ntrans (a b c : List UInt8) (h : Op.bytesLess b a = false) (k : Op.bytesLess c b = false) : Op.bytesLess c a = false := by
  rw [bl_le] at *
  exact List.le_trans h k
/-- names put in their places, one by one -/
def insAll (l : List (List UInt8)) (o : List (List UInt8)) : List (List UInt8) := l.foldl (fun o x => OrdM.ins Op.bytesLess x o) o
theorem insAll_perm : ∀ (l o : List (List UInt8)), (insAll l o).Perm (l ++ o)
  | [], o => List.Perm.refl _
  | x :: t, o => by
    refine (insAll_perm t (OrdM.ins Op.bytesLess x o)).trans ?_
    refine (List.Perm.append_left t (OrdM.ins_perm _ x o)).trans ?_
    exact List.perm_middle
theorem insAll_sorted : ∀ (l o : List (List UInt8)), HeapM.Sorted (fun a b => Op.bytesLess b a = false) o → HeapM.Sorted (fun a b => Op.bytesLess b a = false) (insAll l o)
  | [], o, h => h
  | x :: t, o, h => insAll_sorted t _ (OrdM.ins_sorted bl_asym bl_ntrans x o h)
theorem insAll_eq (l : List (List UInt8)) : insAll l [] = l.mergeSort fun x y => decide (x ≤ y) := by
  refine HeapM.sorted_unique (le := fun a b => Op.bytesLess b a = false) ?_ _ _ (insAll_sorted l [] trivial) ?_ ?_
  · intro x y h k
    apply Classical.byContradiction
    intro e
    have := bl_tri _ _ h (fun h => e h.symm)
    rw [k] at this
    exact absurd this (by simp)
  · refine sorted_of_pairwise _ ?_
    refine (List.pairwise_mergeSort (le := fun x y => decide (x ≤ y)) ?_ ?_ l).imp ?_
    · intro a b c h k
      simp only [decide_eq_true_eq] at *
      exact List.le_trans h k
    · intro a b
      simp only [Bool.or_eq_true, decide_eq_true_eq]
      exact List.le_total a b
    · intro a b h
      rw [bl_le]
      simpa using h
  · have := insAll_perm l []
    rw [List.append_nil] at this
    exact this.trans (List.mergeSort_perm _ _).symm
theorem insAll_snoc (l : List (List UInt8)) (x : List UInt8) : insAll (l ++ [x]) [] = OrdM.ins Op.bytesLess x (insAll l []) := by
  rw [insAll, List.foldl_append]; rfl
/-- where a name goes -/
def place1 (p : List UInt8 → List UInt8 → Bool) (x : List UInt8) : List (List UInt8) → Nat
  | [] => 0
  | y :: t => if p y x = true then place1 p x t + 1 else 0
theorem place1_le (p : List UInt8 → List UInt8 → Bool) (x : List UInt8) : ∀ l, place1 p x l ≤ l.length
  | [] => Nat.le_refl _
  | y :: t => by
    unfold place1
    split
    · have := place1_le p x t; simp; omega
    · exact Nat.zero_le _
theorem ins_place (p : List UInt8 → List UInt8 → Bool) (x : List UInt8) : ∀ l, OrdM.ins p x l = l.take (place1 p x l) ++ x :: l.drop (place1 p x l)
  | [] => rfl
  | y :: t => by
    unfold OrdM.ins place1
    by_cases h : p y x = true
    · rw [if_pos h, if_pos h, List.take_succ_cons, List.drop_succ_cons, ins_place p x t]; rfl
    · rw [if_neg h, if_neg h]; rfl
theorem place1_step (p : List UInt8 → List UInt8 → Bool) (x : List UInt8) {l : List (List UInt8)} {k : Nat} (h : k < l.length) : k + place1 p x (l.drop k) = if p l[k] x = true then (k + 1) + place1 p x (l.drop (k + 1)) else k := by
  rw [List.drop_eq_getElem_cons h, place1]
  split <;> omega
theorem place1_end (p : List UInt8 → List UInt8 → Bool) (x : List UInt8) {l : List (List UInt8)} {k : Nat} (h : l.length ≤ k) : k + place1 p x (l.drop k) = k := by
  rw [List.drop_of_length_le h]; rfl
end Go.Proofs.YtbgamlegiikggaaGreat
