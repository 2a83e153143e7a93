/-
  A heap's up and down in plain words, as the library goes: what comes out is a heap of the same elements.
-/
import Derived.Test.YtbgamlegiikggaaGreatPackA
namespace Go.Proofs.YtbgamlegiikggaaGreat.HeapM
set_option linter.unusedVariables false
def upL {α : Type} (d : α) (ah : α → α → Bool) : Nat → List α → Nat → List α
  | 0, l, _ => l
  | n + 1, l, j => if j = 0 then l else if ah (at' d l j) (at' d l (par j)) = true then upL d ah n (swapL d l (par j) j) (par j) else l
theorem upL_fuel {α : Type} (d : α) (ah : α → α → Bool) : ∀ (n m : Nat) (l : List α) (j : Nat), j < n → j < m → upL d ah n l j = upL d ah m l j
  | n + 1, m + 1, l, j, h1, h2 => by
    rw [upL, upL]
    by_cases h0 : j = 0
    · rw [if_pos h0, if_pos h0]
    · rw [if_neg h0, if_neg h0]
      have hp := par_lt (k := j) (by omega)
      rw [upL_fuel d ah n m _ _ (by omega) (by omega)]
/-- which of the kids of i comes first, of the first n -/
def kidL {α : Type} (d : α) (ah : α → α → Bool) (n : Nat) (l : List α) (i : Nat) : Nat := if 2 * i + 2 < n ∧ ah (at' d l (2 * i + 2)) (at' d l (2 * i + 1)) = true then 2 * i + 2 else 2 * i + 1
def downL {α : Type} (d : α) (ah : α → α → Bool) (n : Nat) : Nat → List α → Nat → List α
  | 0, l, _ => l
  | f + 1, l, i => if n ≤ 2 * i + 1 then l else if ah (at' d l (kidL d ah n l i)) (at' d l i) = true then downL d ah n f (swapL d l i (kidL d ah n l i)) (kidL d ah n l i) else l
theorem kid_lt {α : Type} {d : α} {ah : α → α → Bool} {n : Nat} {l : List α} {i : Nat} (h : ¬ n ≤ 2 * i + 1) : i < kidL d ah n l i ∧ kidL d ah n l i < n := by unfold kidL; split <;> omega
theorem downL_fuel {α : Type} (d : α) (ah : α → α → Bool) (n : Nat) : ∀ (f m : Nat) (l : List α) (i : Nat), n - i < f → n - i < m → downL d ah n f l i = downL d ah n m l i
  | f + 1, m + 1, l, i, h1, h2 => by
    rw [downL, downL]
    by_cases h0 : n ≤ 2 * i + 1
    · rw [if_pos h0, if_pos h0]
    · rw [if_neg h0, if_neg h0]
      have hk := kid_lt (d := d) (ah := ah) (l := l) h0
      rw [downL_fuel d ah n f m _ _ (by omega) (by omega)]
variable {α : Type} {le : α → α → Prop} {d : α} {ah : α → α → Bool}
theorem upL_heap (O : Order le) (h1 : ∀ x y, ah x y = true → le x y) (h2 : ∀ x y, ah x y = false → le y x) (n : Nat) : ∀ (f : Nat) (l : List α) (j : Nat), j < f → j < n → n ≤ l.length → UpBut le d n l j → Heap le d n (upL d ah f l j) ∧ (upL d ah f l j).Perm l
  | f + 1, l, j, hf, hj, hn, hu => by
    rw [upL]
    by_cases h0 : j = 0
    · rw [if_pos h0]
      exact ⟨up_done hu (Or.inl h0), List.Perm.refl _⟩
    · rw [if_neg h0]
      have hp := par_lt (k := j) (by omega)
      by_cases hb : ah (at' d l j) (at' d l (par j)) = true
      · rw [if_pos hb]
        have := upL_heap O h1 h2 n f (swapL d l (par j) j) (par j) (by omega) (by omega) (by rw [swap_len]; exact hn) (up_step O hn hu (by omega) hj (h1 _ _ hb))
        exact ⟨this.1, this.2.trans (swap_perm d l (par j) j (by omega) (by omega))⟩
      · rw [if_neg hb]
        exact ⟨up_done hu (Or.inr (h2 _ _ (by simpa using hb))), List.Perm.refl _⟩
theorem kid_par {n : Nat} {l : List α} {i : Nat} : par (kidL d ah n l i) = i := by unfold kidL par; split <;> omega
theorem kid_min (O : Order le) (h1 : ∀ x y, ah x y = true → le x y) (h2 : ∀ x y, ah x y = false → le y x) {n : Nat} {l : List α} {i : Nat} : ∀ k, 0 < k → k < n → par k = i → le (at' d l (kidL d ah n l i)) (at' d l k) := fun k k0 k1 kp => by
  unfold kidL
  rcases (par_kids k0).1 kp with e | e <;> subst e <;> split
  · next h => exact h1 _ _ h.2
  · exact O.refl _
  · exact O.refl _
  · next h => exact h2 _ _ (by simpa [k1] using h)
theorem downL_heap (O : Order le) (h1 : ∀ x y, ah x y = true → le x y) (h2 : ∀ x y, ah x y = false → le y x) (n : Nat) : ∀ (f : Nat) (l : List α) (i : Nat), n - i < f → n ≤ l.length → DownBut le d n l i → Heap le d n (downL d ah n f l i) ∧ (downL d ah n f l i).Perm l ∧ ∀ k, n ≤ k → at' d (downL d ah n f l i) k = at' d l k
  | f + 1, l, i, hf, hn, hu => by
    rw [downL]
    by_cases h0 : n ≤ 2 * i + 1
    · rw [if_pos h0]
      exact ⟨down_done hu (fun k k0 k1 kp => by have := (par_kids k0).1 kp; omega), List.Perm.refl _, fun _ _ => rfl⟩
    · rw [if_neg h0]
      have hk := kid_lt (d := d) (ah := ah) (l := l) h0
      have hm := kid_min (d := d) (l := l) (n := n) (i := i) O h1 h2
      have hp := kid_par (d := d) (ah := ah) (l := l) (n := n) (i := i)
      by_cases hb : ah (at' d l (kidL d ah n l i)) (at' d l i) = true
      · rw [if_pos hb]
        have := downL_heap O h1 h2 n f (swapL d l i (kidL d ah n l i)) (kidL d ah n l i) (by omega) (by rw [swap_len]; exact hn) (down_step O hn hu (by omega) hk.2 hp (h1 _ _ hb) hm)
        refine ⟨this.1, this.2.1.trans (swap_perm d l _ _ (by omega) (by omega)), fun k h => ?_⟩
        rw [this.2.2 k h, swap_at d l _ _ _ (by omega) (by omega), if_neg (by omega), if_neg (by omega)]
      · rw [if_neg hb]
        exact ⟨down_done hu (fun k k0 k1 kp => O.trans _ _ _ (h2 _ _ (by simpa using hb)) (hm k k0 k1 kp)), List.Perm.refl _, fun _ _ => rfl⟩
/-- one more -/
theorem push_heap (O : Order le) (h1 : ∀ x y, ah x y = true → le x y) (h2 : ∀ x y, ah x y = false → le y x) (l : List α) (x : α) (h : Heap le d l.length l) : Heap le d (l.length + 1) (upL d ah (l.length + 1) (l ++ [x]) l.length) ∧ (upL d ah (l.length + 1) (l ++ [x]) l.length).Perm (l ++ [x]) := by
  refine upL_heap O h1 h2 _ _ _ _ (by omega) (by omega) (by simp) (up_begin (heap_congr h (fun k hk => ?_)))
  unfold at'
  simp [List.getD_eq_getElem?_getD, List.getElem?_append_left hk]
/-- what lies there ahead of the last one being taken -/
def popL (d : α) (ah : α → α → Bool) (l : List α) : List α := downL d ah (l.length - 1) (l.length - 1 + 1) (swapL d l 0 (l.length - 1)) 0
theorem pop_heap (O : Order le) (h1 : ∀ x y, ah x y = true → le x y) (h2 : ∀ x y, ah x y = false → le y x) (l : List α) (hl : 0 < l.length) (h : Heap le d l.length l) :
    at' d (popL d ah l) (l.length - 1) = at' d l 0 ∧ Heap le d (l.length - 1) ((popL d ah l).take (l.length - 1)) ∧ ((popL d ah l).take (l.length - 1) ++ [at' d l 0]).Perm l ∧ ∀ x ∈ (popL d ah l).take (l.length - 1), le (at' d l 0) x := by
  have hd := downL_heap (d := d) O h1 h2 (l.length - 1) (l.length - 1 + 1) (swapL d l 0 (l.length - 1)) 0 (by omega) (by rw [swap_len]; omega) (down_begin h (l.length - 1) (by omega) (fun k k0 k1 => by rw [swap_at d l _ _ _ (by omega) (by omega), if_neg (by omega), if_neg (by omega)]))
  have hlast : at' d (popL d ah l) (l.length - 1) = at' d l 0 := by
    unfold popL
    rw [hd.2.2 _ (Nat.le_refl _), swap_at d l _ _ _ (by omega) (by omega), if_pos rfl]
  exact ⟨hlast, pop_parts O hl h hd.2.1 hlast hd.1⟩
end Go.Proofs.YtbgamlegiikggaaGreat.HeapM
