/-
  Several texts of this claim in one: OrdM, LessK, HeapU, StdM, KeptV, StdC, HpW, HeldK, TakeD, StrS, SOwn (pack.py put them together); each says in its own remark what is proved.
-/
import Derived.Test.YtfbphoppgmganaaGreatPackA
import Derived.Deep.RegionHeld3
import Derived.Laws.AppendOwn
import Derived.Laws.OwnMore
import Derived.LoopTactic
import Derived.Below
import Derived.Laws.Pointers
import Derived.KernelRfl
/-
  Two orders, one behind the other, in plain words: the lesser first, of those that are alike the lesser name; one put in its place.
-/
namespace Go.Proofs.YtfbphoppgmganaaGreat.OrdM
set_option linter.unusedVariables false
variable {β : Type} (lt : β → β → Bool) (nl : List UInt8 → List UInt8 → Bool)
/-- the lesser first, of those that are alike the lesser name -/
def ahead (x y : List UInt8 × β) : Bool := lt x.2 y.2 || (!lt y.2 x.2 && nl x.1 y.1)
structure Weak : Prop where
  irr : ∀ a, lt a a = false
  asym : ∀ a b, lt a b = true → lt b a = false
  ntrans : ∀ a b c, lt b a = false → lt c b = false → lt c a = false
structure Names : Prop where
  irr : ∀ a, nl a a = false
  trans : ∀ a b c, nl a b = true → nl b c = true → nl a c = true
  tri : ∀ a b, nl a b = false → a ≠ b → nl b a = true
variable {lt nl}
theorem Names.asym (N : Names nl) {a b : List UInt8} (h : nl a b = true) : nl b a = false := by
  cases hb : nl b a with
  | false => rfl
  | true => have := N.trans _ _ _ h hb; rw [N.irr] at this; exact absurd this (by simp)
theorem Names.ntrans (N : Names nl) {a b c : List UInt8} (h : nl b a = false) (k : nl c b = false) : nl c a = false := by
  cases hc : nl c a with
  | false => rfl
  | true =>
    by_cases e : b = a
    · subst e; rw [hc] at k; exact absurd k (by simp)
    · have h1 := N.tri _ _ h e
      have h2 := N.trans _ _ _ hc h1
      rw [h2] at k; exact absurd k (by simp)
theorem ahead_asym (W : Weak lt) (N : Names nl) {x y : List UInt8 × β} (h : ahead lt nl x y = true) : ahead lt nl y x = false := by
  unfold ahead at *
  simp only [Bool.or_eq_true, Bool.and_eq_true, Bool.not_eq_true', Bool.or_eq_false_iff, Bool.and_eq_false_iff, Bool.not_eq_false'] at *
  rcases h with h | ⟨h1, h2⟩
  · exact ⟨W.asym _ _ h, .inl h⟩
  · exact ⟨h1, .inr (N.asym h2)⟩
theorem ahead_ntrans (W : Weak lt) (N : Names nl) {x y z : List UInt8 × β} (h : ahead lt nl y x = false) (k : ahead lt nl z y = false) : ahead lt nl z x = false := by
  unfold ahead at *
  simp only [Bool.or_eq_false_iff, Bool.and_eq_false_iff, Bool.not_eq_false'] at *
  obtain ⟨h1, h2⟩ := h
  obtain ⟨k1, k2⟩ := k
  refine ⟨W.ntrans _ _ _ h1 k1, ?_⟩
  cases hx : lt x.2 z.2 with
  | true => exact .inl rfl
  | false =>
    right
    have hxy : lt x.2 y.2 = false := by
      cases e : lt x.2 y.2 with
      | false => rfl
      | true => have := W.ntrans _ _ _ k1 hx; rw [this] at e; exact absurd e (by simp)
    have hyz : lt y.2 z.2 = false := by
      cases e : lt y.2 z.2 with
      | false => rfl
      | true => have := W.ntrans _ _ _ hx h1; rw [this] at e; exact absurd e (by simp)
    rw [hxy] at h2
    rw [hyz] at k2
    exact N.ntrans (h2.resolve_left (by simp)) (k2.resolve_left (by simp))
theorem ahead_anti (W : Weak lt) (N : Names nl) {x y : List UInt8 × β} (h : ahead lt nl y x = false) (k : ahead lt nl x y = false) : x.1 = y.1 := by
  unfold ahead at *
  simp only [Bool.or_eq_false_iff, Bool.and_eq_false_iff, Bool.not_eq_false'] at *
  obtain ⟨h1, h2⟩ := h
  obtain ⟨k1, k2⟩ := k
  have a1 := h2.resolve_left (by rw [k1]; simp)
  have a2 := k2.resolve_left (by rw [h1]; simp)
  apply Classical.byContradiction
  intro e
  have := N.tri _ _ a2 e
  rw [a1] at this
  exact absurd this (by simp)
/-- one put in its place: ahead of the first that doesn't come ahead of it -/
def ins {α : Type} (p : α → α → Bool) (x : α) : List α → List α
  | [] => [x]
  | y :: t => if p y x = true then y :: ins p x t else x :: y :: t
theorem ins_perm {α : Type} (p : α → α → Bool) (x : α) : ∀ l : List α, (ins p x l).Perm (x :: l)
  | [] => List.Perm.refl _
  | y :: t => by
    unfold ins
    split
    · exact ((ins_perm p x t).cons y).trans (List.Perm.swap x y t)
    · exact List.Perm.refl _
theorem ins_sorted {α : Type} {p : α → α → Bool} (asym : ∀ a b, p a b = true → p b a = false) (nt : ∀ a b c, p b a = false → p c b = false → p c a = false) (x : α) : ∀ l : List α, HeapM.Sorted (fun a b => p b a = false) l → HeapM.Sorted (fun a b => p b a = false) (ins p x l)
  | [], _ => ⟨by simp, trivial⟩
  | y :: t, h => by
    unfold ins
    split
    · rename_i hp
      refine ⟨fun z hz => ?_, ins_sorted asym nt x t h.2⟩
      rcases List.mem_cons.1 ((ins_perm p x t).subset hz) with e | e
      · subst e; exact asym _ _ hp
      · exact h.1 z e
    · rename_i hp
      have hp' : p y x = false := by simpa using hp
      refine ⟨fun z hz => ?_, h⟩
      rcases List.mem_cons.1 hz with e | e
      · subst e; exact hp'
      · exact nt _ _ _ hp' (h.1 z e)
end Go.Proofs.YtfbphoppgmganaaGreat.OrdM

/-
  Which of two comes ahead, by the map of ratios that are known; walks over the dump.
-/
namespace Go.Proofs.YtfbphoppgmganaaGreat
open Go.RowKit Go.Maps
set_option linter.unusedVariables false

/-- two pairs stand, boxed, behind w0; of w0 no block has turned but that of the map -/
def PairsK (K : List P4) (w0 : World) (bm : Nat) (a b c d e f g h : Int) (wx : World) : Prop :=
  Var4 wx 206 w0.heap.size a b c d ∧ Var4 wx 206 (w0.heap.size + 1) e f g h ∧ w0.grownBy wx (some bm) ∧ bm < w0.heap.size ∧ HoldsK K bm wx
theorem PairsK.call {K : List P4} {w0 w1 w2 : World} {bm : Nat} {a b c d e f g h : Int} (p : PairsK K w0 bm a b c d e f g h w1) (hk : HoldsK K bm w2) (hg : w1.grownBy w2 (some bm)) : PairsK K w0 bm a b c d e f g h w2 := by
  obtain ⟨p1, p2, p3, p4, _⟩ := p
  exact ⟨p1.grown hg (by simp; omega), p2.grown hg (by simp; omega), grownBy_trans p3 hg, p4, hk⟩
theorem PairsK.below {K : List P4} {w0 w1 w2 : World} {bm : Nat} {a b c d e f g h : Int} (p : PairsK K w0 bm a b c d e f g h w1) (hb : Below w1.heap.size w1 w2) : PairsK K w0 bm a b c d e f g h w2 := p.call (p.2.2.2.2.below hb) (grownBy_below (grownBy_refl _ _) hb)
theorem PairsK.drew {K : List P4} {w0 w1 : World} {bm : Nat} {a b c d e f g h : Int} (p : PairsK K w0 bm a b c d e f g h w1) : PairsK K w0 bm a b c d e f g h w1.drew := p.below (Below.refl _ _).drew
theorem PairsK.read (K : List P4) (w0 : World) (bm : Nat) (a b c d e f g h : Int) : ∀ wx, PairsK K w0 bm a b c d e f g h wx → wx.cell? ⟨w0.heap.size, 0, none⟩ = some (.int .i64 a) ∧ wx.cell? ⟨w0.heap.size, 1, none⟩ = some (.int .i64 b) ∧ wx.cell? ⟨w0.heap.size, 2, none⟩ = some (.int .i64 c) ∧ wx.cell? ⟨w0.heap.size, 3, none⟩ = some (.int .i64 d)
    ∧ wx.cell? ⟨w0.heap.size + 1, 0, none⟩ = some (.int .i64 e) ∧ wx.cell? ⟨w0.heap.size + 1, 1, none⟩ = some (.int .i64 f) ∧ wx.cell? ⟨w0.heap.size + 1, 2, none⟩ = some (.int .i64 g) ∧ wx.cell? ⟨w0.heap.size + 1, 3, none⟩ = some (.int .i64 h) :=
  fun wx p => ⟨p.1.c0, p.1.c1, p.1.c2, p.1.c3, p.2.1.c0, p.2.1.c1, p.2.1.c2, p.2.1.c3⟩
/-- well formed ints -/
def Wf4 (a b c d : Int) : Prop := (Lit.int .i64 a).wf = true ∧ (Lit.int .i64 b).wf = true ∧ (Lit.int .i64 c).wf = true ∧ (Lit.int .i64 d).wf = true

set_option maxRecDepth 100000 in
set_option maxHeartbeats 4000000 in
theorem lessK_any (K : List P4) (hK : K.length ≤ 1000000000) (a b c d e f g h : Int) (h1 : Wf4 a b c d) (h2 : Wf4 e f g h) (i1 : (a, b, c, d) ∈ K) (i2 : (e, f, g, h) ∈ K) (bm : Nat) (w : World) (hm : HoldsK K bm w) :
    Calls Tryz.prog 289 #[.map (some bm), pv a b c d, pv e f g h] w fun o w' => o = .returned (.bool (lessR a b c d e f g h)) ∧ HoldsK K bm w' ∧ w.grownBy w' (some bm) := by
  have C1 := hide (fun wx (hx : HoldsK K bm wx) => ofK_any K hK a b c d h1.1 h1.2.1 h1.2.2.1 h1.2.2.2 i1 bm wx hx)
  have C2 := hide (fun wx (hx : HoldsK K bm wx) => ofK_any K hK e f g h h2.1 h2.2.1 h2.2.2.1 h2.2.2.2 i2 bm wx hx)
  have C3 := hide (fun wx => fracLess_any _ _ _ _ wx (ratio_frac a b c d) (ratio_frac e f g h))
  have hlt := hm.lt
  have A0 := hide (show PairsK K w bm a b c d e f g h ((w.alloc (.cells #[.int .i64 a, .int .i64 b, .int .i64 c, .int .i64 d] 206)).alloc (.cells #[.int .i64 e, .int .i64 f, .int .i64 g, .int .i64 h] 206)) from
    ⟨(var4_new w 206 a b c d).al _, by have := var4_new (w.alloc (.cells #[.int .i64 a, .int .i64 b, .int .i64 c, .int .i64 d] 206)) 206 e f g h; simpa using this, grownBy_below (grownBy_refl _ _) (below_al (below_al (Below.refl _ _) _) _), hlt, hm.below (below_al (below_al (Below.refl _ w) _) _)⟩)
  have R := PairsK.read K w bm a b c d e f g h
  unfold lessR
  obtain ⟨l, hl⟩ : ∃ l, less (ratio a b c d).1 (ratio a b c d).2 (ratio e f g h).1 (ratio e f g h).2 = l := ⟨_, rfl⟩
  rw [hl] at C3 ⊢
  obtain ⟨⟨x1, y1⟩, e1⟩ : ∃ p, ratio a b c d = p := ⟨_, rfl⟩
  obtain ⟨⟨x2, y2⟩, e2⟩ : ∃ p, ratio e f g h = p := ⟨_, rfl⟩
  rw [e1] at C1 C3
  rw [e2] at C2 C3
  clear hl e1 e2 h1 h2 hm i1 i2
  go_enter Tryz.func289, Tryz.ntmps289
  go_wp2_with fail
  go_region_held3 (fun wx => PairsK K w bm a b c d e f g h wx)
    (first | (with_reducible assumption) | exact (unhide A0).drew | exact PairsK.drew (by assumption))
    (first
    | (go_at_call_of 328 a; refine (unhide C1 _ ?_).mono ?_; (exact (show PairsK K w bm a b c d e f g h _ by assumption).2.2.2.2); rintro o wt ⟨rfl, hh, hg⟩; have SA := PairsK.call (K := K) (w0 := w) (bm := bm) (a := a) (b := b) (c := c) (d := d) (e := e) (f := f) (g := g) (h := h) (by assumption) hh hg)
    | (go_at_call_of 328 e; refine (unhide C2 _ ?_).mono ?_; (exact (show PairsK K w bm a b c d e f g h _ by assumption).2.2.2.2); rintro o wt ⟨rfl, hh, hg⟩; have SA := PairsK.call (K := K) (w0 := w) (bm := bm) (a := a) (b := b) (c := c) (d := d) (e := e) (f := f) (g := g) (h := h) (by assumption) hh hg)
    | (go_at_call 329; refine (unhide C3 _).mono ?_; rintro o wt ⟨rfl, hb⟩; have SA := PairsK.below (K := K) (w0 := w) (bm := bm) (a := a) (b := b) (c := c) (d := d) (e := e) (f := f) (g := g) (h := h) (by assumption) hb))
  all_goals
    have HG := hide SA.2.2
    go_wp2
    go_ret
    exact ⟨rfl, (unhide HG).2.2, (unhide HG).1⟩
end Go.Proofs.YtfbphoppgmganaaGreat

/-
  A heap's up and down in plain words, as the library goes: what comes out is a heap of the same elements.
-/
namespace Go.Proofs.YtfbphoppgmganaaGreat.HeapM
set_option linter.unusedVariables false
def upL {α : Type} (d : α) (ah : α → α → Bool) : Nat → List α → Nat → List α
  | 0, l, _ => l
  | n + 1, l, j => if j = 0 then l else if ah (at' d l j) (at' d l (par j)) = true then upL d ah n (swapL d l (par j) j) (par j) else l
theorem upL_fuel {α : Type} (d : α) (ah : α → α → Bool) : ∀ (n m : Nat) (l : List α) (j : Nat), j < n → j < m → upL d ah n l j = upL d ah m l j
  | n + 1, m + 1, l, j, h1, h2 => by
    rw [upL, upL]
    by_cases h0 : j = 0
    · rw [if_pos h0, if_pos h0]
    · rw [if_neg h0, if_neg h0]
      have hp := par_lt (k := j) (by omega)
      rw [upL_fuel d ah n m _ _ (by omega) (by omega)]
/-- which of the kids of i comes first, of the first n -/
def kidL {α : Type} (d : α) (ah : α → α → Bool) (n : Nat) (l : List α) (i : Nat) : Nat := if 2 * i + 2 < n ∧ ah (at' d l (2 * i + 2)) (at' d l (2 * i + 1)) = true then 2 * i + 2 else 2 * i + 1
def downL {α : Type} (d : α) (ah : α → α → Bool) (n : Nat) : Nat → List α → Nat → List α
  | 0, l, _ => l
  | f + 1, l, i => if n ≤ 2 * i + 1 then l else if ah (at' d l (kidL d ah n l i)) (at' d l i) = true then downL d ah n f (swapL d l i (kidL d ah n l i)) (kidL d ah n l i) else l
theorem kid_lt {α : Type} {d : α} {ah : α → α → Bool} {n : Nat} {l : List α} {i : Nat} (h : ¬ n ≤ 2 * i + 1) : i < kidL d ah n l i ∧ kidL d ah n l i < n := by unfold kidL; split <;> omega
theorem downL_fuel {α : Type} (d : α) (ah : α → α → Bool) (n : Nat) : ∀ (f m : Nat) (l : List α) (i : Nat), n - i < f → n - i < m → downL d ah n f l i = downL d ah n m l i
  | f + 1, m + 1, l, i, h1, h2 => by
    rw [downL, downL]
    by_cases h0 : n ≤ 2 * i + 1
    · rw [if_pos h0, if_pos h0]
    · rw [if_neg h0, if_neg h0]
      have hk := kid_lt (d := d) (ah := ah) (l := l) h0
      rw [downL_fuel d ah n f m _ _ (by omega) (by omega)]
variable {α : Type} {le : α → α → Prop} {d : α} {ah : α → α → Bool}
theorem upL_heap (O : Order le) (h1 : ∀ x y, ah x y = true → le x y) (h2 : ∀ x y, ah x y = false → le y x) (n : Nat) : ∀ (f : Nat) (l : List α) (j : Nat), j < f → j < n → n ≤ l.length → UpBut le d n l j → Heap le d n (upL d ah f l j) ∧ (upL d ah f l j).Perm l
  | f + 1, l, j, hf, hj, hn, hu => by
    rw [upL]
    by_cases h0 : j = 0
    · rw [if_pos h0]
      exact ⟨up_done hu (Or.inl h0), List.Perm.refl _⟩
    · rw [if_neg h0]
      have hp := par_lt (k := j) (by omega)
      by_cases hb : ah (at' d l j) (at' d l (par j)) = true
      · rw [if_pos hb]
        have := upL_heap O h1 h2 n f (swapL d l (par j) j) (par j) (by omega) (by omega) (by rw [swap_len]; exact hn) (up_step O hn hu (by omega) hj (h1 _ _ hb))
        exact ⟨this.1, this.2.trans (swap_perm d l (par j) j (by omega) (by omega))⟩
      · rw [if_neg hb]
        exact ⟨up_done hu (Or.inr (h2 _ _ (by simpa using hb))), List.Perm.refl _⟩
theorem kid_par {n : Nat} {l : List α} {i : Nat} : par (kidL d ah n l i) = i := by unfold kidL par; split <;> omega
theorem kid_min (O : Order le) (h1 : ∀ x y, ah x y = true → le x y) (h2 : ∀ x y, ah x y = false → le y x) {n : Nat} {l : List α} {i : Nat} : ∀ k, 0 < k → k < n → par k = i → le (at' d l (kidL d ah n l i)) (at' d l k) := fun k k0 k1 kp => by
  unfold kidL
  rcases (par_kids k0).1 kp with e | e <;> subst e <;> split
  · next h => exact h1 _ _ h.2
  · exact O.refl _
  · exact O.refl _
  · next h => exact h2 _ _ (by simpa [k1] using h)
theorem downL_heap (O : Order le) (h1 : ∀ x y, ah x y = true → le x y) (h2 : ∀ x y, ah x y = false → le y x) (n : Nat) : ∀ (f : Nat) (l : List α) (i : Nat), n - i < f → n ≤ l.length → DownBut le d n l i → Heap le d n (downL d ah n f l i) ∧ (downL d ah n f l i).Perm l ∧ ∀ k, n ≤ k → at' d (downL d ah n f l i) k = at' d l k
  | f + 1, l, i, hf, hn, hu => by
    rw [downL]
    by_cases h0 : n ≤ 2 * i + 1
    · rw [if_pos h0]
      exact ⟨down_done hu (fun k k0 k1 kp => by have := (par_kids k0).1 kp; omega), List.Perm.refl _, fun _ _ => rfl⟩
    · rw [if_neg h0]
      have hk := kid_lt (d := d) (ah := ah) (l := l) h0
      have hm := kid_min (d := d) (l := l) (n := n) (i := i) O h1 h2
      have hp := kid_par (d := d) (ah := ah) (l := l) (n := n) (i := i)
      by_cases hb : ah (at' d l (kidL d ah n l i)) (at' d l i) = true
      · rw [if_pos hb]
        have := downL_heap O h1 h2 n f (swapL d l i (kidL d ah n l i)) (kidL d ah n l i) (by omega) (by rw [swap_len]; exact hn) (down_step O hn hu (by omega) hk.2 hp (h1 _ _ hb) hm)
        refine ⟨this.1, this.2.1.trans (swap_perm d l _ _ (by omega) (by omega)), fun k h => ?_⟩
        rw [this.2.2 k h, swap_at d l _ _ _ (by omega) (by omega), if_neg (by omega), if_neg (by omega)]
      · rw [if_neg hb]
        exact ⟨down_done hu (fun k k0 k1 kp => O.trans _ _ _ (h2 _ _ (by simpa using hb)) (hm k k0 k1 kp)), List.Perm.refl _, fun _ _ => rfl⟩
/-- one more -/
theorem push_heap (O : Order le) (h1 : ∀ x y, ah x y = true → le x y) (h2 : ∀ x y, ah x y = false → le y x) (l : List α) (x : α) (h : Heap le d l.length l) : Heap le d (l.length + 1) (upL d ah (l.length + 1) (l ++ [x]) l.length) ∧ (upL d ah (l.length + 1) (l ++ [x]) l.length).Perm (l ++ [x]) := by
  refine upL_heap O h1 h2 _ _ _ _ (by omega) (by omega) (by simp) (up_begin (heap_congr h (fun k hk => ?_)))
  unfold at'
  simp [List.getD_eq_getElem?_getD, List.getElem?_append_left hk]
/-- what lies there ahead of the last one being taken -/
def popL (d : α) (ah : α → α → Bool) (l : List α) : List α := downL d ah (l.length - 1) (l.length - 1 + 1) (swapL d l 0 (l.length - 1)) 0
theorem pop_heap (O : Order le) (h1 : ∀ x y, ah x y = true → le x y) (h2 : ∀ x y, ah x y = false → le y x) (l : List α) (hl : 0 < l.length) (h : Heap le d l.length l) :
    at' d (popL d ah l) (l.length - 1) = at' d l 0 ∧ Heap le d (l.length - 1) ((popL d ah l).take (l.length - 1)) ∧ ((popL d ah l).take (l.length - 1) ++ [at' d l 0]).Perm l ∧ ∀ x ∈ (popL d ah l).take (l.length - 1), le (at' d l 0) x := by
  have hd := downL_heap (d := d) O h1 h2 (l.length - 1) (l.length - 1 + 1) (swapL d l 0 (l.length - 1)) 0 (by omega) (by rw [swap_len]; omega) (down_begin h (l.length - 1) (by omega) (fun k k0 k1 => by rw [swap_at d l _ _ _ (by omega) (by omega), if_neg (by omega), if_neg (by omega)]))
  have hlast : at' d (popL d ah l) (l.length - 1) = at' d l 0 := by
    unfold popL
    rw [hd.2.2 _ (Nat.le_refl _), swap_at d l _ _ _ (by omega) (by omega), if_pos rfl]
  exact ⟨hlast, pop_parts O hl h hd.2.1 hlast hd.1⟩
end Go.Proofs.YtfbphoppgmganaaGreat.HeapM

/-
  Leaves with what they use and what is due: lists of them in memory, and which comes ahead.
-/
namespace Go.Proofs.YtfbphoppgmganaaGreat
open Go.RowKit Go.Maps
set_option linter.unusedVariables false

abbrev SE := List UInt8 × P4
def stc (x : SE) : List Value := [.string (bs x.1), .int .i64 x.2.1, .int .i64 x.2.2.1, .int .i64 x.2.2.2.1, .int .i64 x.2.2.2.2]
abbrev stv (x : SE) : Value := .agg #[.string (bs x.1), .int .i64 x.2.1, .int .i64 x.2.2.1, .int .i64 x.2.2.2.1, .int .i64 x.2.2.2.2]
def stcs : List SE → List Value
  | [] => []
  | x :: t => stc x ++ stcs t
theorem stcs_len : ∀ l : List SE, (stcs l).length = l.length * 5
  | [] => rfl
  | x :: t => by rw [stcs, List.length_append, stcs_len t]; simp [stc]; omega
theorem stcs_app : ∀ a b : List SE, stcs (a ++ b) = stcs a ++ stcs b
  | [], b => rfl
  | x :: t, b => by rw [List.cons_append, stcs, stcs_app t b, stcs, List.append_assoc]
theorem stcs_take : ∀ (l : List SE) (k : Nat), stcs (l.take k) = (stcs l).take (k * 5)
  | l, 0 => by simp [stcs]
  | [], k + 1 => by simp [stcs]
  | x :: t, k + 1 => by
    rw [List.take_succ_cons, stcs, stcs, stcs_take t k, show (k + 1) * 5 = (stc x).length + k * 5 by simp [stc]; omega, List.take_length_add_append]
theorem stcs_at : ∀ (l : List SE) (i : Nat) (h : i < l.length), (stcs l)[i * 5]? = some (.string (bs l[i].1)) ∧ (stcs l)[i * 5 + 1]? = some (.int .i64 l[i].2.1) ∧ (stcs l)[i * 5 + 2]? = some (.int .i64 l[i].2.2.1) ∧ (stcs l)[i * 5 + 3]? = some (.int .i64 l[i].2.2.2.1) ∧ (stcs l)[i * 5 + 4]? = some (.int .i64 l[i].2.2.2.2)
  | x :: t, 0, _ => by simp [stcs, stc]
  | x :: t, i + 1, h => by
    have ih := stcs_at t i (by simpa using h)
    have e : ∀ r, (stcs (x :: t))[(i + 1) * 5 + r]? = (stcs t)[i * 5 + r]? := fun r => by
      rw [stcs, List.getElem?_append_right (by simp [stc]; omega)]
      congr 1
      simp [stc]; omega
    have e0 := e 0
    simp only [Nat.add_zero] at e0
    rw [e0, e 1, e 2, e 3, e 4]
    simpa using ih
def stset (xs : List Value) (i : Nat) (x : SE) : List Value := ((((xs.set (i * 5) (.string (bs x.1))).set (i * 5 + 1) (.int .i64 x.2.1)).set (i * 5 + 2) (.int .i64 x.2.2.1)).set (i * 5 + 3) (.int .i64 x.2.2.2.1)).set (i * 5 + 4) (.int .i64 x.2.2.2.2)
theorem stcs_set : ∀ (l : List SE) (i : Nat) (x : SE), stset (stcs l) i x = stcs (l.set i x)
  | [], i, x => by simp [stcs, stset]
  | y :: t, 0, x => by simp [stcs, stc, stset]
  | y :: t, i + 1, x => by
    have ih := stcs_set t i x
    have e : ∀ (s : List Value) r v, (stc y ++ s).set ((i + 1) * 5 + r) v = stc y ++ s.set (i * 5 + r) v := fun s r v => by
      rw [List.set_append, if_neg (by simp [stc]; omega)]
      congr 2
      simp [stc]; omega
    rw [List.set_cons_succ, stcs, stcs, ← ih, stset, stset]
    have e0 := fun s v => e s 0 v
    simp only [Nat.add_zero] at e0
    rw [e0, e, e, e, e]
theorem own_set {w : World} {B g cap n j sz : Nat} {e : TypeId} {xs : List Value} (h : w.ownsRow B e sz (.slice (some ⟨g, 0, none⟩) n cap) n xs) (hj : j < n * sz) (v : Value) : (w.setCell ⟨g, j, none⟩ v).ownsRow B e sz (.slice (some ⟨g, 0, none⟩) n cap) n (xs.set j v) := by
  obtain ⟨h1, h2⟩ := h
  refine ⟨by simpa using h1, ?_⟩
  rcases h2 with ⟨e, _⟩ | ⟨g', cap', cur, e, hb, hc, k1, k2, k3, k4⟩
  · cases e
  · cases e
    refine .inr ⟨g, cap, _, rfl, hb, heap_setCell_same w g j cur _ _ hc, k1, k2, by simpa using k3, ?_⟩
    rw [Array.toList_setIfInBounds, List.take_set, k4]
/-- a leaf is written whole -/
def stW (w : World) (g i : Nat) (x : SE) : World := ((((w.setCell ⟨g, i * 5, none⟩ (.string (bs x.1))).setCell ⟨g, i * 5 + 1, none⟩ (.int .i64 x.2.1)).setCell ⟨g, i * 5 + 2, none⟩ (.int .i64 x.2.2.1)).setCell ⟨g, i * 5 + 3, none⟩ (.int .i64 x.2.2.2.1)).setCell ⟨g, i * 5 + 4, none⟩ (.int .i64 x.2.2.2.2)
theorem own_stset {w : World} {B g cap i : Nat} {l : List SE} (h : w.ownsRow B 279 5 (.slice (some ⟨g, 0, none⟩) l.length cap) l.length (stcs l)) (hi : i < l.length) (x : SE) : (stW w g i x).ownsRow B 279 5 (.slice (some ⟨g, 0, none⟩) l.length cap) l.length (stcs (l.set i x)) := by
  rw [← stcs_set]
  exact own_set (own_set (own_set (own_set (own_set h (by omega) _) (by omega) _) (by omega) _) (by omega) _) (by omega) _
def lessP (p q : P4) : Bool := lessR p.1 p.2.1 p.2.2.1 p.2.2.2 q.1 q.2.1 q.2.2.1 q.2.2.2
/-- which of two leaves comes ahead -/
def aheadS (x y : SE) : Bool := OrdM.ahead lessP Op.bytesLess x y
end Go.Proofs.YtfbphoppgmganaaGreat

/-
  Blocks that stand through calls: their cells.
-/
namespace Go.Proofs.YtfbphoppgmganaaGreat
open Go.RowKit
set_option linter.unusedVariables false

/-- block g is just these cells -/
def Blk (w : World) (g : Nat) (arr : Array Value) (t : TypeId) : Prop := w.heap[g]? = some (.cells arr t (0, 0))
theorem Blk.lt {w : World} {g : Nat} {arr : Array Value} {t : TypeId} (h : Blk w g arr t) : g < w.heap.size := lt_of_block h
theorem Blk.below {w w' : World} {g : Nat} {arr : Array Value} {t : TypeId} (h : Blk w g arr t) (hb : Below w.heap.size w w') : Blk w' g arr t := (hb.block g h.lt).trans h
theorem Blk.at {w : World} {g : Nat} {arr : Array Value} {t : TypeId} (h : Blk w g arr t) (j : Nat) : w.cell? ⟨g, j, none⟩ = arr[j]? := by
  unfold Blk at h; simp [World.cell?, h]
theorem Blk.f {w : World} {g : Nat} {arr : Array Value} {t : TypeId} (h : Blk w g arr t) (j : Nat) : w.frozen? ⟨g, j, none⟩ = false := by
  unfold Blk at h; simp [World.frozen?, h]
theorem Blk.al {w : World} {g : Nat} {arr : Array Value} {t : TypeId} (h : Blk w g arr t) (o : Obj) : Blk (w.alloc o) g arr t := h.below (below_al (Below.refl _ _) o)
theorem Blk.drew {w : World} {g : Nat} {arr : Array Value} {t : TypeId} (h : Blk w g arr t) : Blk w.drew g arr t := h
theorem Blk.set {w : World} {g : Nat} {arr : Array Value} {t : TypeId} (h : Blk w g arr t) (j : Nat) (v : Value) : Blk (w.setCell ⟨g, j, none⟩ v) g (arr.setIfInBounds j v) t := heap_setCell_same w g j _ _ v h
theorem Blk.other {w : World} {g : Nat} {arr : Array Value} {t : TypeId} (h : Blk w g arr t) (k j : Nat) (v : Value) (hn : g ≠ k) : Blk (w.setCell ⟨k, j, none⟩ v) g arr t := (heap_setCell_other w ⟨k, j, none⟩ g v hn).trans h
theorem blk_new (w : World) (arr : Array Value) (t : TypeId) : Blk (w.alloc (.cells arr t)) w.heap.size arr t := by show (w.heap.push _)[w.heap.size]? = _; simp
theorem al_size (w : World) (o : Obj) : (w.alloc o).heap.size = w.heap.size + 1 := by show (w.heap.push _).size = _; simp
/-- a cell of the newest block that is set: the block was made so -/
theorem set_new (w : World) (arr : Array Value) (t : TypeId) (j : Nat) (v : Value) : (w.alloc (.cells arr t)).setCell ⟨w.heap.size, j, none⟩ v = w.alloc (.cells (arr.setIfInBounds j v) t) := by
  unfold World.setCell World.alloc
  congr 1
  apply Array.ext
  · simp
  · intro i h1 h2
    simp [Array.getElem_modify, Array.getElem_push]
    split <;> split <;> simp_all <;> omega
theorem set_old (w : World) (o : Obj) (b j : Nat) (v : Value) (hb : b < w.heap.size) : (w.alloc o).setCell ⟨b, j, none⟩ v = (w.setCell ⟨b, j, none⟩ v).alloc o := by
  unfold World.setCell World.alloc
  congr 1
  apply Array.ext
  · simp
  · intro i h1 h2
    simp [Array.getElem_modify, Array.getElem_push]
    split <;> split <;> simp_all <;> omega
theorem set_new' (w : World) (arr : Array Value) (t : TypeId) (b j : Nat) (v : Value) (hb : b = w.heap.size) : (w.alloc (.cells arr t)).setCell ⟨b, j, none⟩ v = w.alloc (.cells (arr.setIfInBounds j v) t) := by subst hb; exact set_new w arr t j v
theorem below_dn {w w1 : World} (h : Below w.heap.size w w1) (n : Nat) : Below w.heap.size w (w1.drewN n) := by
  induction n with
  | zero => exact h
  | succ n ih => exact ih.drew
theorem set_size (w : World) (a : Addr) (v : Value) : (w.setCell a v).heap.size = w.heap.size := by unfold World.setCell; simp
end Go.Proofs.YtfbphoppgmganaaGreat

/-
  The closure that tells which of two leaves comes ahead, and the function that makes it; walks over the dump.
-/
namespace Go.Proofs.YtfbphoppgmganaaGreat
open Go.RowKit Go.Maps
set_option linter.unusedVariables false

theorem Blk.gby1 {w w' : World} {g k : Nat} {arr : Array Value} {t : TypeId} (h : Blk w k arr t) (hg : w.grownBy w' (some g)) (hn : k ≠ g) : Blk w' k arr t := (hg.block k h.lt (fun e => hn (by simpa using e))).trans h
/-- the closure, over the variable at block bk -/
abbrev cloV (bk : Nat) : Value := .func (.func 288) #[] #[.pointer (some ⟨bk, 0, none⟩)]

set_option maxRecDepth 100000 in
set_option maxHeartbeats 4000000 in
theorem leastFn_any (K : List P4) (hK : K.length ≤ 1000000000) (KW : ∀ p ∈ K, Wf4 p.1 p.2.1 p.2.2.1 p.2.2.2) (x y : SE) (hx : x.2 ∈ K) (hy : y.2 ∈ K) (bm bk : Nat) (w : World) (hc : Blk w bk #[.map (some bm)] 325) (hm : HoldsK K bm w) (hne : bk ≠ bm) :
    Calls Tryz.prog 288 #[stv x, stv y, .pointer (some ⟨bk, 0, none⟩)] w fun e w' => e = .returned (.bool (aheadS x y)) ∧ HoldsK K bm w' ∧ w.grownBy w' (some bm) := by
  obtain ⟨n1, a, b, c, d⟩ := x
  obtain ⟨n2, e, f, g, h⟩ := y
  have C1 := hide (fun wx hm => lessK_any K hK a b c d e f g h (KW _ hx) (KW _ hy) hx hy bm wx hm)
  have C2 := hide (fun wx hm => lessK_any K hK e f g h a b c d (KW _ hy) (KW _ hx) hy hx bm wx hm)
  have HA := hide (show aheadS (n1, a, b, c, d) (n2, e, f, g, h) = (lessR a b c d e f g h || (!lessR e f g h a b c d && Op.bytesLess n1 n2)) from rfl)
  obtain ⟨l1, hl1⟩ : ∃ z, lessR a b c d e f g h = z := ⟨_, rfl⟩
  obtain ⟨l2, hl2⟩ : ∃ b', lessR e f g h a b c d = b' := ⟨_, rfl⟩
  obtain ⟨o, ho⟩ : ∃ b', aheadS (n1, a, b, c, d) (n2, e, f, g, h) = b' := ⟨_, rfl⟩
  rw [hl1] at C1 HA
  rw [hl2] at C2 HA
  rw [ho] at HA ⊢
  have X0 := hide ((blk_new w #[.string (bs n1), .int .i64 a, .int .i64 b, .int .i64 c, .int .i64 d] 279).al (.cells #[.string (bs n2), .int .i64 e, .int .i64 f, .int .i64 g, .int .i64 h] 279))
  have Y0 := hide (show Blk ((w.alloc (.cells #[.string (bs n1), .int .i64 a, .int .i64 b, .int .i64 c, .int .i64 d] 279)).alloc (.cells #[.string (bs n2), .int .i64 e, .int .i64 f, .int .i64 g, .int .i64 h] 279)) (w.heap.size + 1) #[.string (bs n2), .int .i64 e, .int .i64 f, .int .i64 g, .int .i64 h] 279 from by have := blk_new (w.alloc (.cells #[.string (bs n1), .int .i64 a, .int .i64 b, .int .i64 c, .int .i64 d] 279)) #[.string (bs n2), .int .i64 e, .int .i64 f, .int .i64 g, .int .i64 h] 279; rw [al_size] at this; exact this)
  have M0 := hide ((hc.al (.cells #[.string (bs n1), .int .i64 a, .int .i64 b, .int .i64 c, .int .i64 d] 279)).al (.cells #[.string (bs n2), .int .i64 e, .int .i64 f, .int .i64 g, .int .i64 h] 279))
  have hb0 := below_al (below_al (Below.refl _ w) (.cells #[.string (bs n1), .int .i64 a, .int .i64 b, .int .i64 c, .int .i64 d] 279)) (.cells #[.string (bs n2), .int .i64 e, .int .i64 f, .int .i64 g, .int .i64 h] 279)
  have H0 := hide (hm.below hb0)
  have G0 := hide (grownBy_below (grownBy_refl w (some bm)) hb0)
  have hlm : bm < w.heap.size := hm.lt
  clear hl1 hl2 ho hc hm hb0 hx hy
  have c0 := (unhide M0).at 0
  have x1 := (unhide X0).at 1; have x2 := (unhide X0).at 2; have x3 := (unhide X0).at 3; have x4 := (unhide X0).at 4
  have y1 := (unhide Y0).at 1; have y2 := (unhide Y0).at 2; have y3 := (unhide Y0).at 3; have y4 := (unhide Y0).at 4
  simp at c0 x1 x2 x3 x4 y1 y2 y3 y4
  go_enter Tryz.func288, Tryz.ntmps288
  go_wp2_with fail
  refine (unhide C1 _ (unhide H0)).mono ?_
  rintro e1 w1 ⟨rfl, hh, hg⟩
  have H1 := hide hh
  have G1 := hide (grownBy_trans (unhide G0) hg)
  have X1 := hide ((unhide X0).gby1 hg (by omega))
  have Y1 := hide ((unhide Y0).gby1 hg (by omega))
  have M1 := hide ((unhide M0).gby1 hg hne)
  clear hh hg H0 G0 X0 Y0 M0 C1 c0 x1 x2 x3 x4 y1 y2 y3 y4
  cases l1
  case true =>
    go_wp2
    go_ret
    exact ⟨ret_bool (by rw [unhide HA]; rfl), unhide H1, unhide G1⟩
  have c0 := (unhide M1).at 0
  have x1 := (unhide X1).at 1; have x2 := (unhide X1).at 2; have x3 := (unhide X1).at 3; have x4 := (unhide X1).at 4
  have y1 := (unhide Y1).at 1; have y2 := (unhide Y1).at 2; have y3 := (unhide Y1).at 3; have y4 := (unhide Y1).at 4
  simp at c0 x1 x2 x3 x4 y1 y2 y3 y4
  go_wp2_with fail
  refine (unhide C2 _ (unhide H1)).mono ?_
  rintro e2 w2 ⟨rfl, hh, hg⟩
  have H2 := hide hh
  have G2 := hide (grownBy_trans (unhide G1) hg)
  have X2 := hide ((unhide X1).gby1 hg (by omega))
  have Y2 := hide ((unhide Y1).gby1 hg (by omega))
  clear hh hg H1 G1 X1 Y1 M1 C2 c0 x1 x2 x3 x4 y1 y2 y3 y4
  cases l2
  case true =>
    go_wp2
    go_ret
    exact ⟨ret_bool (by rw [unhide HA]; rfl), unhide H2, unhide G2⟩
  have x0 := (unhide X2).at 0
  have y0 := (unhide Y2).at 0
  simp at x0 y0
  obtain ⟨bl, hbl⟩ : ∃ z, Op.bytesLess (bs n1).toList (bs n2).toList = z := ⟨_, rfl⟩
  have HBL := hide (show Op.bytesLess n1 n2 = bl by rw [← hbl]; simp [bs])
  go_wp2
  go_ret
  exact ⟨ret_bool (by rw [unhide HA, unhide HBL]; rfl), unhide H2, unhide G2⟩
end Go.Proofs.YtfbphoppgmganaaGreat

/-
  The library's heap, by its methods: what up and down do of a list that is held; walks over the dump.
-/
namespace Go.Proofs.YtfbphoppgmganaaGreat
open Go.RowKit HeapM
set_option linter.unusedVariables false

theorem nilchk (a : Addr) (nm : String) (w : World) : (Builtin.ssaWrapNilChk_ #[271] 271 #[.pointer (some a), strVal "", strVal nm]).run Tryz.prog w = .ok (.pointer (some a)) w := rfl
set_option maxRecDepth 100000 in
theorem m_less (g : Nat) (w : World) (x y : Value) (h : w.heap[g]? = some (.cells #[x, y] 276 (0, 0))) : (method 505 271 (.pointer (some ⟨g, 0, none⟩)) "Less").run Tryz.prog w = .ok (384, .agg #[x, y]) w := by
  have h0 : w.cell? ⟨g, 0, none⟩ = some x := by simp [World.cell?, h]
  have h1 : w.cell? ⟨g, 1, none⟩ = some y := by simp [World.cell?, h]
  have hmap : (Array.find? (fun x => x.name == "Less") Tryz.t271.methods).map (fun m => (m.path.toList, m.func)) = some ([], some (384, false)) := by kernel_rfl
  obtain ⟨m, hm, he⟩ := Option.map_eq_some_iff.1 hmap
  simp only [Prod.mk.injEq] at he
  obtain ⟨hp, hf⟩ := he
  unfold method
  have hp' : m.path = #[] := Array.toList_eq_nil_iff.1 hp
  generalize (("Less".splitOn ".").getLastD "Less") = nm
  simp [go_sem, hm, hp', hf, follow, receiverAt, Place.get, nilchk, h0, h1]
set_option maxRecDepth 100000 in
theorem m_swap (g : Nat) (w : World) (x y : Value) (h : w.heap[g]? = some (.cells #[x, y] 276 (0, 0))) : (method 505 271 (.pointer (some ⟨g, 0, none⟩)) "Swap").run Tryz.prog w = .ok (387, .agg #[x, y]) w := by
  have h0 : w.cell? ⟨g, 0, none⟩ = some x := by simp [World.cell?, h]
  have h1 : w.cell? ⟨g, 1, none⟩ = some y := by simp [World.cell?, h]
  have hmap : (Array.find? (fun x => x.name == "Swap") Tryz.t271.methods).map (fun m => (m.path.toList, m.func)) = some ([], some (387, false)) := by kernel_rfl
  obtain ⟨m, hm, he⟩ := Option.map_eq_some_iff.1 hmap
  simp only [Prod.mk.injEq] at he
  obtain ⟨hp, hf⟩ := he
  unfold method
  have hp' : m.path = #[] := Array.toList_eq_nil_iff.1 hp
  generalize (("Swap".splitOn ".").getLastD "Swap") = nm
  simp [go_sem, hm, hp', hf, follow, receiverAt, Place.get, nilchk, h0, h1]
/-- what the heap's methods do, of a list that is held -/
structure HeapObj (A : Prop) {α : Type} (d : α) (ah : α → α → Bool) (g : Nat) (HI : World → List α → Prop) (V : World → α → Value → Prop) : Prop where
  obj : ∀ w l, HI w l → ∃ x y, w.heap[g]? = some (.cells #[x, y] 276 (0, 0))
  less : ∀ w l x y (i j : Nat), HI w l → w.heap[g]? = some (.cells #[x, y] 276 (0, 0)) → i < l.length → j < l.length → Calls Tryz.prog 384 #[.agg #[x, y], .int .i64 (i : Int), .int .i64 (j : Int)] w fun e w' => e = .returned (.bool (ah (HeapM.at' d l i) (HeapM.at' d l j))) ∧ HI w' l
  swap : ∀ w l x y (i j : Nat), HI w l → w.heap[g]? = some (.cells #[x, y] 276 (0, 0)) → i < l.length → j < l.length → Calls Tryz.prog 387 #[.agg #[x, y], .int .i64 (i : Int), .int .i64 (j : Int)] w fun e w' => e = .returned (.tuple #[]) ∧ HI w' (HeapM.swapL d l i j)
  len : ∀ w l x y, HI w l → w.heap[g]? = some (.cells #[x, y] 276 (0, 0)) → Calls Tryz.prog 233 #[.agg #[x, y]] w fun e w' => e = .returned (.int .i64 (l.length : Int)) ∧ HI w' l
  push : A → ∀ w l a v, HI w l → V w a v → l.length < 1000000 → Calls Tryz.prog 386 #[.pointer (some ⟨g, 0, none⟩), v] w fun e w' => e = .returned (.tuple #[]) ∧ HI w' (l ++ [a])
  pop : ∀ w l, HI w l → 0 < l.length → Calls Tryz.prog 385 #[.pointer (some ⟨g, 0, none⟩)] w fun e w' => (∃ v, e = .returned v ∧ V w' (HeapM.at' d l (l.length - 1)) v) ∧ HI w' (l.take (l.length - 1))
set_option maxRecDepth 100000 in
theorem m_len (g : Nat) (w : World) (x y : Value) (h : w.heap[g]? = some (.cells #[x, y] 276 (0, 0))) : (method 505 271 (.pointer (some ⟨g, 0, none⟩)) "Len").run Tryz.prog w = .ok (233, .agg #[x, y]) w := by
  have h0 : w.cell? ⟨g, 0, none⟩ = some x := by simp [World.cell?, h]
  have h1 : w.cell? ⟨g, 1, none⟩ = some y := by simp [World.cell?, h]
  have hmap : (Array.find? (fun x => x.name == "Len") Tryz.t271.methods).map (fun m => (m.path.toList, m.func)) = some ([], some (233, false)) := by kernel_rfl
  obtain ⟨m, hm, he⟩ := Option.map_eq_some_iff.1 hmap
  simp only [Prod.mk.injEq] at he
  obtain ⟨hp, hf⟩ := he
  unfold method
  have hp' : m.path = #[] := Array.toList_eq_nil_iff.1 hp
  generalize (("Len".splitOn ".").getLastD "Len") = nm
  simp [go_sem, hm, hp', hf, follow, receiverAt, Place.get, nilchk, h0, h1]
set_option maxRecDepth 100000 in
theorem m_push (g : Nat) (w : World) : (method 505 271 (.pointer (some ⟨g, 0, none⟩)) "Push").run Tryz.prog w = .ok (386, .pointer (some ⟨g, 0, none⟩)) w := by kernel_rfl
set_option maxRecDepth 100000 in
theorem m_pop (g : Nat) (w : World) : (method 505 271 (.pointer (some ⟨g, 0, none⟩)) "Pop").run Tryz.prog w = .ok (385, .pointer (some ⟨g, 0, none⟩)) w := by kernel_rfl
set_option maxRecDepth 100000 in
set_option maxHeartbeats 2000000 in
theorem up_any {A : Prop} {α : Type} {d : α} {ah : α → α → Bool} {g : Nat} {HI : World → List α → Prop} {V : World → α → Value → Prop} (H : HeapObj A d ah g HI V) (l : List α) (j : Nat) (w : World) (h : HI w l) (hj : j < l.length) (hl : l.length ≤ 1000000) :
    Calls Tryz.prog 330 #[.iface 271 (.pointer (some ⟨g, 0, none⟩)), .int .i64 (j : Int)] w fun e w' => e = .returned (.tuple #[]) ∧ HI w' (upL d ah (j + 1) l j) := by
  have HH := hide H
  have H0 := hide h
  obtain ⟨R, hR⟩ : ∃ R, upL d ah (j + 1) l j = R := ⟨_, rfl⟩
  rw [hR]
  have HR := hide hR
  obtain ⟨n, hn⟩ : ∃ n, l.length = n := ⟨_, rfl⟩
  have HN := hide hn
  rw [hn] at hj hl
  clear H h hR hn
  go_enter Tryz.func330, Tryz.ntmps330
  go_wp2
  go_loopw [1] (fun v wr => ∃ (i : Nat) (l' : List α), v = .int .i64 (i : Int) ∧ i < n ∧ Hid (l'.length = n) ∧ Hid (HI wr l') ∧ Hid (upL d ah (i + 1) l' i = R)) (fun v _ => (intOf v).toNat)
  case atStart => exact ⟨j, l, rfl, hj, HN, H0, HR⟩
  case round =>
    obtain ⟨i, l', rfl, hi, HL, HI', HR'⟩ := hrel
    by_cases h0 : i = 0
    · subst h0
      go_wp2
      go_end0
      have hr := unhide HR'
      rw [upL, if_pos rfl] at hr
      exact ⟨rfl, hr ▸ unhide HI'⟩
    · obtain ⟨x, y, hb⟩ := (unhide HH).obj _ _ (unhide HI')
      have hm := m_less g wr x y hb
      have hp := HeapM.par_lt (k := i) (by omega)
      have C1 := hide ((unhide HH).less wr l' x y i (HeapM.par i) (unhide HI') hb (by have := unhide HL; omega) (by have := unhide HL; omega))
      have hq : ((i : Int) - 1) / 2 = ((HeapM.par i : Nat) : Int) := by unfold HeapM.par; omega
      have hne : ¬ ((HeapM.par i : Nat) : Int) = (i : Int) := by omega
      obtain ⟨b, hbe⟩ : ∃ b, ah (HeapM.at' d l' i) (HeapM.at' d l' (HeapM.par i)) = b := ⟨_, rfl⟩
      rw [hbe] at C1
      have hr := unhide HR'
      rw [upL, if_neg h0, hbe] at hr
      have HR2 := hide hr
      clear hr hbe
      go_wp2_with fail
      refine (unhide C1).mono ?_
      rintro e w2 ⟨rfl, hi2⟩
      have HI2 := hide hi2
      clear hi2 C1 hm hb
      cases b
      · go_wp2
        go_end0
        exact ⟨rfl, (unhide HR2) ▸ unhide HI2⟩
      · obtain ⟨x2, y2, hb2⟩ := (unhide HH).obj _ _ (unhide HI2)
        have hm2 := m_swap g w2 x2 y2 hb2
        have C2 := hide ((unhide HH).swap w2 l' x2 y2 (HeapM.par i) i (unhide HI2) hb2 (by have := unhide HL; omega) (by have := unhide HL; omega))
        have HR3 := hide (show upL d ah i (HeapM.swapL d l' (HeapM.par i) i) (HeapM.par i) = R from by have := unhide HR2; simpa using this)
        clear hb2 HR2
        go_wp2_with fail
        refine (unhide C2).mono ?_
        rintro e w3 ⟨rfl, hi3⟩
        have HI3 := hide hi3
        clear hi3 C2 hm2
        go_wp2
        go_roundw
        case rel => exact ⟨HeapM.par i, HeapM.swapL d l' (HeapM.par i) i, rfl, by omega, hide (by rw [HeapM.swap_len]; exact unhide HL), HI3, hide (by rw [upL_fuel d ah (HeapM.par i + 1) i _ _ (by omega) (by omega)]; exact unhide HR3)⟩
        case measure => simp [intOf]; omega
set_option maxRecDepth 100000 in
set_option maxHeartbeats 4000000 in
theorem down_any {A : Prop} {α : Type} {d : α} {ah : α → α → Bool} {g : Nat} {HI : World → List α → Prop} {V : World → α → Value → Prop} (H : HeapObj A d ah g HI V) (l : List α) (n : Nat) (w : World) (h : HI w l) (hn : n ≤ l.length) (hl : l.length ≤ 1000000) :
    Calls Tryz.prog 331 #[.iface 271 (.pointer (some ⟨g, 0, none⟩)), .int .i64 0, .int .i64 (n : Int)] w fun e w' => ∃ b, e = .returned (.bool b) ∧ HI w' (downL d ah n (n + 1) l 0) := by
  have HH := hide H
  have H0 := hide h
  obtain ⟨R, hR⟩ : ∃ R, downL d ah n (n + 1) l 0 = R := ⟨_, rfl⟩
  rw [hR]
  have HR := hide hR
  obtain ⟨N, hN⟩ : ∃ N, l.length = N := ⟨_, rfl⟩
  have HN := hide hN
  rw [hN] at hn hl
  clear H h hR hN
  go_enter Tryz.func331, Tryz.ntmps331
  go_wp2
  go_loopw [7] (fun v wr => ∃ (i : Nat) (l' : List α), v = .int .i64 (i : Int) ∧ i ≤ n ∧ Hid (l'.length = N) ∧ Hid (HI wr l') ∧ Hid (downL d ah n (n - i + 1) l' i = R)) (fun v _ => n - (intOf v).toNat)
  case atStart => exact ⟨0, l, rfl, by omega, HN, H0, HR⟩
  case round =>
    obtain ⟨i, l', rfl, hi, HL, HI', HR'⟩ := hrel
    have hr := unhide HR'
    rw [downL] at hr
    by_cases h0 : n ≤ 2 * i + 1
    · rw [if_pos h0] at hr
      have HR2 := hide hr
      have h1 : (n : Int) ≤ 2 * (i : Int) + 1 := by omega
      clear hr
      go_wp2
      go_ret
      exact ⟨_, rfl, (unhide HR2) ▸ unhide HI'⟩
    · rw [if_neg h0] at hr
      have HR2 := hide hr
      clear hr
      have hk := kid_lt (d := d) (ah := ah) (l := l') h0
      have h1 : ¬ (n : Int) ≤ 2 * (i : Int) + 1 := by omega
      have h1' : decide ((n : Int) ≤ 2 * (i : Int) + 1) = false := by simp; omega
      have HREST := hide (fun (wr : World) (hi2 : HI wr l') => hi2)
      by_cases h2 : 2 * i + 2 < n
      · obtain ⟨x, y, hb⟩ := (unhide HH).obj _ _ (unhide HI')
        have hm := m_less g wr x y hb
        have C1 := hide ((unhide HH).less wr l' x y (2 * i + 2) (2 * i + 1) (unhide HI') hb (by have := unhide HL; omega) (by have := unhide HL; omega))
        have e1 : ((2 * i + 2 : Nat) : Int) = 2 * (i : Int) + 1 + 1 := by omega
        have e2 : ((2 * i + 1 : Nat) : Int) = 2 * (i : Int) + 1 := by omega
        rw [e1, e2] at C1
        have h3 : 2 * (i : Int) + 1 + 1 < (n : Int) := by omega
        obtain ⟨b, hbe⟩ : ∃ b, ah (HeapM.at' d l' (2 * i + 2)) (HeapM.at' d l' (2 * i + 1)) = b := ⟨_, rfl⟩
        rw [hbe] at C1
        have HK := hide (show kidL d ah n l' i = if b = true then 2 * i + 2 else 2 * i + 1 by unfold kidL; rw [hbe]; simp [h2])
        clear hbe e1 e2
        go_wp2_with fail
        refine (unhide C1).mono ?_
        rintro e w2 ⟨rfl, hi2⟩
        have HI2 := hide hi2
        clear hi2 C1 hm hb
        cases b
        · have hk2 : kidL d ah n l' i = 2 * i + 1 := by have := unhide HK; simpa using this
          have hr := unhide HR2
          rw [hk2] at hr
          obtain ⟨x2, y2, hb2⟩ := (unhide HH).obj _ _ (unhide HI2)
          have hm2 := m_less g w2 x2 y2 hb2
          have C2 := hide ((unhide HH).less w2 l' x2 y2 (2 * i + 1) i (unhide HI2) hb2 (by have := unhide HL; omega) (by have := unhide HL; omega))
          have e3 : ((2 * i + 1 : Nat) : Int) = 2 * (i : Int) + 1 := by omega
          rw [e3] at C2
          obtain ⟨c, hc⟩ : ∃ c, ah (HeapM.at' d l' (2 * i + 1)) (HeapM.at' d l' i) = c := ⟨_, rfl⟩
          rw [hc] at C2 hr
          have HR3 := hide hr
          clear hr hc hb2 HR2
          go_wp2_with fail
          refine (unhide C2).mono ?_
          rintro e w3 ⟨rfl, hi3⟩
          have HI3 := hide hi3
          clear hi3 C2 hm2
          cases c
          · go_wp2
            go_ret
            exact ⟨_, rfl, (show l' = R by have := unhide HR3; simpa using this) ▸ unhide HI3⟩
          · obtain ⟨x4, y4, hb4⟩ := (unhide HH).obj _ _ (unhide HI3)
            have hm4 := m_swap g w3 x4 y4 hb4
            have C4 := hide ((unhide HH).swap w3 l' x4 y4 i (2 * i + 1) (unhide HI3) hb4 (by have := unhide HL; omega) (by have := unhide HL; omega))
            rw [e3] at C4
            have HR4 := hide (show downL d ah n (n - i) (HeapM.swapL d l' i (2 * i + 1)) (2 * i + 1) = R from by have := unhide HR3; simpa using this)
            clear hb4 HR3
            go_wp2_with fail
            refine (unhide C4).mono ?_
            rintro e w4 ⟨rfl, hi4⟩
            have HI4 := hide hi4
            clear hi4 C4 hm4
            go_wp2
            go_roundw
            case rel => exact ⟨2 * i + 1, HeapM.swapL d l' i (2 * i + 1), by rw [e3], by omega, hide (by rw [HeapM.swap_len]; exact unhide HL), HI4, hide (by rw [downL_fuel d ah n (n - (2 * i + 1) + 1) (n - i) _ _ (by omega) (by omega)]; exact unhide HR4)⟩
            case measure => simp [intOf]; omega
        · have hk2 : kidL d ah n l' i = 2 * i + 2 := by have := unhide HK; simpa using this
          have hr := unhide HR2
          rw [hk2] at hr
          obtain ⟨x2, y2, hb2⟩ := (unhide HH).obj _ _ (unhide HI2)
          have hm2 := m_less g w2 x2 y2 hb2
          have C2 := hide ((unhide HH).less w2 l' x2 y2 (2 * i + 2) i (unhide HI2) hb2 (by have := unhide HL; omega) (by have := unhide HL; omega))
          have e3 : ((2 * i + 2 : Nat) : Int) = 2 * (i : Int) + 1 + 1 := by omega
          rw [e3] at C2
          obtain ⟨c, hc⟩ : ∃ c, ah (HeapM.at' d l' (2 * i + 2)) (HeapM.at' d l' i) = c := ⟨_, rfl⟩
          rw [hc] at C2 hr
          have HR3 := hide hr
          clear hr hc hb2 HR2
          go_wp2_with fail
          refine (unhide C2).mono ?_
          rintro e w3 ⟨rfl, hi3⟩
          have HI3 := hide hi3
          clear hi3 C2 hm2
          cases c
          · go_wp2
            go_ret
            exact ⟨_, rfl, (show l' = R by have := unhide HR3; simpa using this) ▸ unhide HI3⟩
          · obtain ⟨x4, y4, hb4⟩ := (unhide HH).obj _ _ (unhide HI3)
            have hm4 := m_swap g w3 x4 y4 hb4
            have C4 := hide ((unhide HH).swap w3 l' x4 y4 i (2 * i + 2) (unhide HI3) hb4 (by have := unhide HL; omega) (by have := unhide HL; omega))
            rw [e3] at C4
            have HR4 := hide (show downL d ah n (n - i) (HeapM.swapL d l' i (2 * i + 2)) (2 * i + 2) = R from by have := unhide HR3; simpa using this)
            clear hb4 HR3
            go_wp2_with fail
            refine (unhide C4).mono ?_
            rintro e w4 ⟨rfl, hi4⟩
            have HI4 := hide hi4
            clear hi4 C4 hm4
            go_wp2
            go_roundw
            case rel => exact ⟨2 * i + 2, HeapM.swapL d l' i (2 * i + 2), by rw [e3], by omega, hide (by rw [HeapM.swap_len]; exact unhide HL), HI4, hide (by rw [downL_fuel d ah n (n - (2 * i + 2) + 1) (n - i) _ _ (by omega) (by omega)]; exact unhide HR4)⟩
            case measure => simp [intOf]; omega
      · have h3 : ¬ 2 * (i : Int) + 1 + 1 < (n : Int) := by omega
        have hk2 : kidL d ah n l' i = 2 * i + 1 := by unfold kidL; rw [if_neg (by omega)]
        have hr := unhide HR2
        rw [hk2] at hr
        obtain ⟨x2, y2, hb2⟩ := (unhide HH).obj _ _ (unhide HI')
        have hm2 := m_less g wr x2 y2 hb2
        have C2 := hide ((unhide HH).less wr l' x2 y2 (2 * i + 1) i (unhide HI') hb2 (by have := unhide HL; omega) (by have := unhide HL; omega))
        have e3 : ((2 * i + 1 : Nat) : Int) = 2 * (i : Int) + 1 := by omega
        rw [e3] at C2
        obtain ⟨c, hc⟩ : ∃ c, ah (HeapM.at' d l' (2 * i + 1)) (HeapM.at' d l' i) = c := ⟨_, rfl⟩
        rw [hc] at C2 hr
        have HR3 := hide hr
        clear hr hc hb2 HR2
        go_wp2_with fail
        refine (unhide C2).mono ?_
        rintro e w3 ⟨rfl, hi3⟩
        have HI3 := hide hi3
        clear hi3 C2 hm2
        cases c
        · go_wp2
          go_ret
          exact ⟨_, rfl, (show l' = R by have := unhide HR3; simpa using this) ▸ unhide HI3⟩
        · obtain ⟨x4, y4, hb4⟩ := (unhide HH).obj _ _ (unhide HI3)
          have hm4 := m_swap g w3 x4 y4 hb4
          have C4 := hide ((unhide HH).swap w3 l' x4 y4 i (2 * i + 1) (unhide HI3) hb4 (by have := unhide HL; omega) (by have := unhide HL; omega))
          rw [e3] at C4
          have HR4 := hide (show downL d ah n (n - i) (HeapM.swapL d l' i (2 * i + 1)) (2 * i + 1) = R from by have := unhide HR3; simpa using this)
          clear hb4 HR3
          go_wp2_with fail
          refine (unhide C4).mono ?_
          rintro e w4 ⟨rfl, hi4⟩
          have HI4 := hide hi4
          clear hi4 C4 hm4
          go_wp2
          go_roundw
          case rel => exact ⟨2 * i + 1, HeapM.swapL d l' i (2 * i + 1), by rw [e3], by omega, hide (by rw [HeapM.swap_len]; exact unhide HL), HI4, hide (by rw [downL_fuel d ah n (n - (2 * i + 1) + 1) (n - i) _ _ (by omega) (by omega)]; exact unhide HR4)⟩
          case measure => simp [intOf]; omega
theorem upL_len {α : Type} (d : α) (ah : α → α → Bool) : ∀ (f : Nat) (l : List α) (j : Nat), (upL d ah f l j).length = l.length
  | 0, _, _ => rfl
  | f + 1, l, j => by
    rw [upL]
    split
    · rfl
    · split
      · rw [upL_len d ah f, HeapM.swap_len]
      · rfl
theorem downL_len {α : Type} (d : α) (ah : α → α → Bool) (n : Nat) : ∀ (f : Nat) (l : List α) (i : Nat), (downL d ah n f l i).length = l.length
  | 0, _, _ => rfl
  | f + 1, l, i => by
    rw [downL]
    split
    · rfl
    · split
      · rw [downL_len d ah n f, HeapM.swap_len]
      · rfl
set_option maxRecDepth 100000 in
set_option maxHeartbeats 2000000 in
theorem push_any {A : Prop} {α : Type} {d : α} {ah : α → α → Bool} {g : Nat} {HI : World → List α → Prop} {V : World → α → Value → Prop} (H : HeapObj A d ah g HI V) (hA : A) (l : List α) (a : α) (v : Value) (w : World) (h : HI w l) (hv : V w a v) (hl : l.length < 1000000) :
    Calls Tryz.prog 290 #[.iface 271 (.pointer (some ⟨g, 0, none⟩)), v] w fun e w' => e = .returned (.tuple #[]) ∧ HI w' (upL d ah (l.length + 1) (l ++ [a]) l.length) := by
  have HH := hide H
  have hm := m_push g w
  have C1 := hide (H.push hA w l a v h hv hl)
  clear H h hv
  go_enter Tryz.func290, Tryz.ntmps290
  go_wp2_with fail
  refine (unhide C1).mono ?_
  rintro e w2 ⟨rfl, hi2⟩
  obtain ⟨x, y, hb⟩ := (unhide HH).obj _ _ hi2
  have hm2 := m_len g w2 x y hb
  have C2 := (unhide HH).len w2 _ x y hi2 hb
  rw [List.length_append, List.length_singleton] at C2
  have HC2 := hide C2
  clear C2 C1 hm hb hi2
  go_wp2_with fail
  refine (unhide HC2).mono ?_
  rintro e w3 ⟨rfl, hi3⟩
  have C3 := up_any (unhide HH) (l ++ [a]) l.length w3 hi3 (by simp) (by simp; omega)
  have HC3 := hide C3
  have e1 : (((l.length + 1 : Nat) : Int) - 1) = (l.length : Int) := by omega
  clear C3 HC2 hm2 hi3
  go_wp2_with fail
  refine (unhide HC3).mono ?_
  rintro e w4 ⟨rfl, hi4⟩
  have HI4 := hide hi4
  clear hi4
  go_wp2
  go_end0
  exact ⟨rfl, unhide HI4⟩
set_option maxRecDepth 100000 in
set_option maxHeartbeats 2000000 in
theorem pop_any {A : Prop} {α : Type} {d : α} {ah : α → α → Bool} {g : Nat} {HI : World → List α → Prop} {V : World → α → Value → Prop} (H : HeapObj A d ah g HI V) (l : List α) (w : World) (h : HI w l) (h0 : 0 < l.length) (hl : l.length ≤ 1000000) :
    Calls Tryz.prog 291 #[.iface 271 (.pointer (some ⟨g, 0, none⟩))] w fun e w' => (∃ v, e = .returned v ∧ V w' (HeapM.at' d (HeapM.popL d ah l) (l.length - 1)) v) ∧ HI w' ((HeapM.popL d ah l).take (l.length - 1)) := by
  have HH := hide H
  obtain ⟨n, hn⟩ : ∃ n, l.length = n + 1 := ⟨l.length - 1, by omega⟩
  have ep : l.length - 1 = n := by omega
  have en : (((n + 1 : Nat) : Int) - 1) = (n : Int) := by omega
  obtain ⟨x, y, hb⟩ := H.obj _ _ h
  have hm := m_len g w x y hb
  have C1 := H.len w _ x y h hb
  rw [hn] at C1
  have HC1 := hide C1
  have HP := hide (show HeapM.popL d ah l = downL d ah n (n + 1) (HeapM.swapL d l 0 n) 0 by unfold HeapM.popL; rw [ep])
  rw [ep]
  clear H h hb C1
  go_enter Tryz.func291, Tryz.ntmps291
  go_wp2_with fail
  refine (unhide HC1).mono ?_
  rintro e w2 ⟨rfl, hi2⟩
  obtain ⟨x2, y2, hb2⟩ := (unhide HH).obj _ _ hi2
  have hm2 := m_swap g w2 x2 y2 hb2
  have HC2 := hide ((unhide HH).swap w2 l x2 y2 0 n hi2 hb2 (by omega) (by omega))
  clear HC1 hm hb2 hi2
  go_wp2_with fail
  refine (unhide HC2).mono ?_
  rintro e w3 ⟨rfl, hi3⟩
  have HC3 := hide (down_any (unhide HH) _ n w3 hi3 (by rw [HeapM.swap_len]; omega) (by rw [HeapM.swap_len]; omega))
  clear HC2 hm2 hi3
  go_wp2_with fail
  refine (unhide HC3).mono ?_
  rintro e w4 ⟨b, rfl, hi4⟩
  rw [← unhide HP] at hi4
  have e4 : (HeapM.popL d ah l).length = n + 1 := by rw [unhide HP, downL_len, HeapM.swap_len, hn]
  have C4 := (unhide HH).pop w4 _ hi4 (by omega)
  rw [e4] at C4
  have HC4 := hide C4
  have hm4 := m_pop g w4
  clear HC3 hi4 C4
  go_wp2_with fail
  refine (unhide HC4).mono ?_
  rintro e w5 ⟨⟨v, rfl, hv⟩, hi5⟩
  have HI5 := hide hi5
  have HV := hide hv
  clear hi5 hv
  go_wp2
  go_ret
  exact ⟨⟨_, rfl, unhide HV⟩, unhide HI5⟩
end Go.Proofs.YtfbphoppgmganaaGreat

/-
  Words on worlds that calls and stores behind them keep; all that was there stands.
-/
namespace Go.Proofs.YtfbphoppgmganaaGreat
open Go.RowKit
set_option linter.unusedVariables false

/-- what a word on worlds bears -/
structure Holds (S : World → Prop) (w0 : World) (n : Nat) : Prop where
  call : ∀ {wx wy : World}, S wx → Below wx.heap.size wx wy → S wy
  set : ∀ {wx : World} (k j : Nat) (v : Value), S wx → n ≤ k → S (wx.setCell ⟨k, j, none⟩ v)
  size : ∀ {wx : World}, S wx → n ≤ wx.heap.size
  below : ∀ {wx : World}, S wx → Below w0.heap.size w0 wx
theorem Holds.drew {S : World → Prop} {w0 : World} {n : Nat} (h : Holds S w0 n) {wx : World} (hs : S wx) : S wx.drew := h.call hs (Below.refl _ _).drew
theorem Holds.al {S : World → Prop} {w0 : World} {n : Nat} (h : Holds S w0 n) {wx : World} (hs : S wx) (o : Obj) : S (wx.alloc o) := h.call hs (below_al (Below.refl _ _) o)
theorem Holds.set2 {S : World → Prop} {w0 : World} {n : Nat} (h : Holds S w0 n) {wx : World} (hs : S wx) (k : Nat) (a b : Value) (hk : n ≤ k) : S ((wx.setCell ⟨k, 0, none⟩ a).setCell ⟨k, 1, none⟩ b) := h.set k 1 b (h.set k 0 a hs hk) hk
/-- all that was there stands -/
def Kp (w1 wx : World) : Prop := Below w1.heap.size w1 wx
theorem kp_holds (w1 : World) : Holds (Kp w1) w1 w1.heap.size where
  call := fun h hb => below_on h hb
  set := fun k j v h hk => below_sc h _ _ _ hk
  size := fun h => h.size
  below := fun h => h
theorem Kp.cell {w1 wx : World} (h : Kp w1 wx) {b j : Nat} {v : Value} (hc : w1.cell? ⟨b, j, none⟩ = some v) : wx.cell? ⟨b, j, none⟩ = some v := (Below.cell h (p := ⟨b, j, none⟩) (cell_lt hc)).trans hc
theorem Kp.new (w1 : World) : Kp w1 w1 := Below.refl _ _
end Go.Proofs.YtfbphoppgmganaaGreat

/-
  An operation of a region that draws its order, taken first, where it puts its value said by its number.
-/
namespace Go.Proofs.YtfbphoppgmganaaGreat
open Go.RowKit
theorem takeD {P : Program} {ops : Array Oper} {Q : Exit → Act → World → Prop} {md : Region.Mode} {S : World → Prop} {i : Nat} {oi : Oper} {v : Value} {d : Option Tmp} {fuel : Nat} {listed : Array Bool} {a : Act} {w : World} (hi : ops[i]? = some oi) (hd : oi.dst = d)
    (hs : Region.noSelect ops = true) (hf : Region.free md ops listed i = true) (hr : (Region.ready md ops listed).contains i = true)
    (hQ : ∀ c a w, Q (.panic c) (a.put d v) w → Q (.panic c) a w) (hy : YieldsIf P ops S oi v a) (hS : S w)
    (h : wpAnyH P md ops Q S fuel (listed.setIfInBounds i true) (a.put d v) w) : wpAnyH P md ops Q S (fuel + 1) listed a w := by
  subst hd
  exact wpAnyH_take hi hs hf hr hQ hy hS h
end Go.Proofs.YtfbphoppgmganaaGreat

/-
  Slices of texts that a call has made.
-/
namespace Go.Proofs.YtfbphoppgmganaaGreat
open Go.RowKit
set_option linter.unusedVariables false

/-- block g holds, from its head on, the texts xs, with room for cap -/
def SS (w : World) (g cap : Nat) (xs : List ByteArray) : Prop := w.ownsRow g 9 1 (.slice (some ⟨g, 0, none⟩) xs.length cap) xs.length (xs.map Value.string)
theorem SS.cell {w : World} {g cap : Nat} {xs : List ByteArray} (h : SS w g cap xs) (j : Nat) (hj : j < xs.length) : w.cell? ⟨g, j, none⟩ = some (.string xs[j]) := by
  have := World.ownsRow.cellAt h j (by omega)
  rw [this]; simp [hj]
theorem SS.frozen {w : World} {g cap : Nat} {xs : List ByteArray} (h : SS w g cap xs) (j : Nat) : w.frozen? ⟨g, j, none⟩ = false := World.ownsRow.frozenAt h j
theorem SS.block {w : World} {g cap : Nat} {xs : List ByteArray} (h : SS w g cap xs) : ∃ cur, w.heap[g]? = some (.cells cur 9 (0, 0)) ∧ xs.length ≤ cap ∧ cap ≤ maxLen ∧ cur.size = cap ∧ cur.toList.take xs.length = xs.map Value.string := by
  rcases h.2 with ⟨h1, _⟩ | ⟨g', cap', cur, h1, _, h2, h3, h4, h5, h6⟩
  · simp at h1
  · simp only [Value.slice.injEq, Option.some.injEq, Addr.mk.injEq, and_true, true_and] at h1
    obtain ⟨rfl, rfl⟩ := h1
    exact ⟨cur, h2, h3, h4, by simpa using h5, by simpa using h6⟩
theorem SS.mk {w : World} {g cap : Nat} {xs : List ByteArray} {cur : Array Value} (h : w.heap[g]? = some (.cells cur 9 (0, 0))) (h1 : xs.length ≤ cap) (h2 : cap ≤ maxLen) (h3 : cur.size = cap) (h4 : cur.toList.take xs.length = xs.map Value.string) : SS w g cap xs :=
  ⟨by simp, .inr ⟨g, cap, cur, rfl, Nat.le_refl _, h, h1, h2, by simpa using h3, by simpa using h4⟩⟩
theorem SS.lt {w : World} {g cap : Nat} {xs : List ByteArray} (h : SS w g cap xs) : g < w.heap.size := by
  obtain ⟨cur, h1, _⟩ := h.block
  exact lt_of_block h1
theorem SS.same {w w' : World} {g cap : Nat} {xs : List ByteArray} (h : SS w g cap xs) (hg : w'.heap[g]? = w.heap[g]?) : SS w' g cap xs := by
  obtain ⟨cur, h1, h2, h3, h4, h5⟩ := h.block
  exact SS.mk (hg.trans h1) h2 h3 h4 h5
theorem SS.below {w w' : World} {B g cap : Nat} {xs : List ByteArray} (h : SS w g cap xs) (hb : Below B w w') (hg : g < B) : SS w' g cap xs := h.same (hb.block g hg)
theorem SS.set {w : World} {g cap : Nat} {xs : List ByteArray} (h : SS w g cap xs) (j : Nat) (hj : j < xs.length) (x : ByteArray) : SS (w.setCell ⟨g, j, none⟩ (.string x)) g cap (xs.set j x) := by
  obtain ⟨cur, h1, h2, h3, h4, h5⟩ := h.block
  refine SS.mk (heap_setCell_same w g j cur _ _ h1) (by simpa using h2) h3 (by simpa using h4) ?_
  rw [List.length_set, Array.toList_setIfInBounds, List.take_set, h5, List.map_set]

end Go.Proofs.YtfbphoppgmganaaGreat

/-
  Lists of texts that a call gathers, one behind the other.
-/
namespace Go.Proofs.YtfbphoppgmganaaGreat
open Go.RowKit
set_option linter.unusedVariables false

abbrev scells (o : List ByteArray) : List Value := o.map Value.string
theorem Tryz.infoS : (Tryz.prog.info? 9).map (fun i => (i.zero, i.size, i.bytes)) = some (some (.string ByteArray.empty), 1, 16) := by kernel_rfl
theorem sown_empty (w : World) : (w.alloc (.cells #[] 9)).ownsRow w.heap.size 9 1 (.slice (some ⟨w.heap.size, 0, none⟩) 0 0) ([] : List ByteArray).length (scells []) :=
  ⟨rfl, .inr ⟨w.heap.size, 0, #[], rfl, Nat.le_refl _, by show (w.heap.push _)[w.heap.size]? = _; simp, Nat.le_refl _, by unfold maxLen; omega, rfl, rfl⟩⟩
theorem srow_step {w wr w1 : World} {B : Nat} {v v' : Value} {o : List ByteArray} {x : ByteArray} {ob : Obj} (hb : Below B w wr) (hown : wr.ownsRow B 9 1 v o.length (scells o))
    (h1 : w1.ownsRow B 9 1 v' (o.length + 1) (scells o ++ [.string x])) (hg : (wr.alloc ob).grownBy w1 v.ownBlock) (hB : B ≤ wr.heap.size) :
    w1.ownsRow B 9 1 v' (o ++ [x]).length (scells (o ++ [x])) ∧ Below B w w1 := by
  refine ⟨by simpa [scells] using h1, (hb.alloc hB ob).grown hg (by simp; omega) ?_⟩
  intro k hk
  rcases hown.2 with ⟨rfl, _⟩ | ⟨g, cap, cur, rfl, hg', _⟩
  · simp [Value.ownBlock] at hk
  · simp [Value.ownBlock] at hk; omega
theorem ss_of_owns {w : World} {B : Nat} {v : Value} {o : List ByteArray} (h : w.ownsRow B 9 1 v o.length (scells o)) (ho : 1 ≤ o.length) : ∃ g cap, v = .slice (some ⟨g, 0, none⟩) o.length cap ∧ SS w g cap o ∧ B ≤ g := by
  rcases h.2 with ⟨_, h0⟩ | ⟨g, cap, cur, rfl, h1, h2, h3, h4, h5, h6⟩
  · omega
  · exact ⟨g, cap, rfl, SS.mk h2 h3 h4 (by simpa using h5) (by simpa using h6), h1⟩

theorem sown_below {w w' : World} {B : Nat} {v : Value} {o : List ByteArray} (h : w.ownsRow B 9 1 v o.length (scells o)) (hb : Below w.heap.size w w') : w'.ownsRow B 9 1 v o.length (scells o) :=
  h.kept (grownBy_below (grownBy_refl w none) hb) (by by_cases e : v.ownBlock = none; exact .inl e; exact .inr e)
/-- v is a list of these texts, in memory of its own from block B on -/
def Texts (B : Nat) (w : World) (v : Value) (ps : List (List UInt8)) : Prop := w.ownsRow B 9 1 v (ps.map bs).length (scells (ps.map bs))
theorem Texts.of {B : Nat} {w : World} {v : Value} {ps : List (List UInt8)} {o : List ByteArray} (h : w.ownsRow B 9 1 v o.length (scells o)) (e : o = ps.map bs) : Texts B w v ps := by subst e; exact h
theorem Texts.below {w w' : World} {B : Nat} {v : Value} {ps : List (List UInt8)} (h : Texts B w v ps) (hb : Below w.heap.size w w') : Texts B w' v ps := sown_below h hb
end Go.Proofs.YtfbphoppgmganaaGreat
