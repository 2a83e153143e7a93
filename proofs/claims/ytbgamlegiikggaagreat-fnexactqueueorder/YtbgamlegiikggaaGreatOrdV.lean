/-
  The leaves in the order in which they come: in plain words; what is taken off a heap one by one is that order.
-/
import Derived.Test.YtbgamlegiikggaaGreatStdS
import Derived.Test.YtbgamlegiikggaaGreatRatN
namespace Go.Proofs.YtbgamlegiikggaaGreat
open Go.RowKit
set_option linter.unusedVariables false

theorem less_asym {a b c d : Int} (h : less a b c d = true) : less c d a b = false := by
  unfold less at *
  by_cases b0 : b = 0
  · simp [b0] at h
  · by_cases d0 : d = 0
    · simp [d0]
    · simp only [b0, d0, if_false, decide_eq_true_eq] at h ⊢
      simp only [decide_eq_false_iff_not]
      omega
theorem less_irr (a b : Int) : less a b a b = false := by
  unfold less
  by_cases b0 : b = 0
  · simp [b0]
  · simp [b0]
theorem lessWeak : OrdM.Weak lessP where
  irr := fun a => less_irr _ _
  asym := fun a b h => less_asym h
  ntrans := fun a b c h k => less_ntrans (ratio_small ..).2 (ratio_small ..).2 (ratio_small ..).2 h k
theorem blNames : OrdM.Names Op.bytesLess where
  irr := bl_irr
  trans := bl_trans
  tri := bl_tri
/-- x comes no later than y -/
def leS (x y : SE) : Prop := aheadS y x = false
theorem leS_order : HeapM.Order leS where
  trans := fun x y z h k => OrdM.ahead_ntrans lessWeak blNames h k
  total := fun x y => by
    cases h : aheadS y x with
    | false => exact .inl h
    | true => exact .inr (OrdM.ahead_asym lessWeak blNames h)
theorem leS_1 : ∀ x y, aheadS x y = true → leS x y := fun x y h => OrdM.ahead_asym lessWeak blNames h
theorem leS_2 : ∀ x y, aheadS x y = false → leS y x := fun x y h => h
/-- which of two leaves of a state comes ahead -/
def befN (s : St) (a b : List UInt8) : Bool := aheadS (stOf s a) (stOf s b)
theorem befN_asym (s : St) (a b : List UInt8) (h : befN s a b = true) : befN s b a = false := OrdM.ahead_asym lessWeak blNames h
theorem befN_ntrans (s : St) (a b c : List UInt8) (h : befN s b a = false) (k : befN s c b = false) : befN s c a = false := OrdM.ahead_ntrans lessWeak blNames h k
theorem befN_anti (s : St) (a b : List UInt8) (h : befN s b a = false) (k : befN s a b = false) : a = b := OrdM.ahead_anti (x := stOf s a) (y := stOf s b) lessWeak blNames h k
/-- names put in their places, one by one -/
def insP (p : List UInt8 → List UInt8 → Bool) (l : List (List UInt8)) (o : List (List UInt8)) : List (List UInt8) := l.foldl (fun o x => OrdM.ins p x o) o
theorem insP_perm (p : List UInt8 → List UInt8 → Bool) : ∀ (l o : List (List UInt8)), (insP p l o).Perm (l ++ o)
  | [], o => List.Perm.refl _
  | x :: t, o => by
    refine (insP_perm p t (OrdM.ins p x o)).trans ?_
    refine (List.Perm.append_left t (OrdM.ins_perm _ x o)).trans ?_
    exact List.perm_middle
theorem insP_sorted {p : List UInt8 → List UInt8 → Bool} (asym : ∀ a b, p a b = true → p b a = false) (nt : ∀ a b c, p b a = false → p c b = false → p c a = false) : ∀ (l o : List (List UInt8)), HeapM.Sorted (fun a b => p b a = false) o → HeapM.Sorted (fun a b => p b a = false) (insP p l o)
  | [], o, h => h
  | x :: t, o, h => insP_sorted asym nt t _ (OrdM.ins_sorted asym nt x o h)
theorem insP_snoc (p : List UInt8 → List UInt8 → Bool) (l : List (List UInt8)) (x : List UInt8) : insP p (l ++ [x]) [] = OrdM.ins p x (insP p l []) := by
  rw [insP, List.foldl_append]; rfl
/-- the leaves in their order -/
def orderV (s : St) : List (List UInt8) := insP (befN s) (leavesOf s.qs) []
theorem orderV_perm (s : St) : (orderV s).Perm (leavesOf s.qs) := by
  have := insP_perm (befN s) (leavesOf s.qs) []
  rw [List.append_nil] at this
  exact this
theorem orderV_len (s : St) : (orderV s).length ≤ s.qs.length := by
  rw [(orderV_perm s).length_eq]
  exact leavesOf_len _
theorem order_unique (s : St) (N : List (List UInt8)) (h : HeapM.Sorted (fun a b => befN s b a = false) N) (hp : N.Perm (leavesOf s.qs)) : N = orderV s :=
  HeapM.sorted_unique (befN_anti s) _ _ h (insP_sorted (befN_asym s) (befN_ntrans s) _ _ trivial) (hp.trans (orderV_perm s).symm)
theorem sorted_fst (s : St) : ∀ P : List SE, (∀ x ∈ P, x = stOf s x.1) → HeapM.Sorted leS P → HeapM.Sorted (fun a b => befN s b a = false) (P.map Prod.fst)
  | [], _, _ => trivial
  | x :: t, hx, h => ⟨fun y hy => by
      obtain ⟨z, hz, rfl⟩ := List.mem_map.1 hy
      have h1 := h.1 z hz
      unfold leS at h1
      rw [hx x (by simp), hx z (by simp [hz])] at h1
      exact h1, sorted_fst s t (fun z hz => hx z (by simp [hz])) h.2⟩
/-- all that was taken off a heap of these leaves, one by one -/
theorem order_taken (s : St) (P : List SE) (h : HeapM.Sorted leS P) (hp : P.Perm ((leavesOf s.qs).map (stOf s))) : P.map Prod.fst = orderV s := by
  refine order_unique s _ (sorted_fst s P (fun x hx => ?_) h) ?_
  · obtain ⟨n, _, rfl⟩ := List.mem_map.1 (hp.subset hx)
    rfl
  · have := hp.map Prod.fst
    rw [List.map_map] at this
    have e : (Prod.fst ∘ stOf s) = id := by funext n; rfl
    rw [e, List.map_id] at this
    exact this
/-- the same, one queue after the other, each in its place -/
def orderF (s : St) (k : Nat) : List (List UInt8) := insP (befN s) (((s.qs.take k).map Q.name).filter (leaf s.qs)) []
theorem orderF_end (s : St) {k : Nat} (h : s.qs.length ≤ k) : orderF s k = orderV s := by
  rw [orderF, List.take_of_length_le h]; rfl
theorem orderF_step (s : St) {k : Nat} (h : k < s.qs.length) : orderF s (k + 1) = if leaf s.qs s.qs[k].name = true then OrdM.ins (befN s) s.qs[k].name (orderF s k) else orderF s k := by
  rw [orderF, List.take_succ_eq_append_getElem h, List.map_append, List.filter_append]
  cases hb : leaf s.qs s.qs[k].name with
  | true =>
    rw [if_pos rfl]
    simp only [List.map_cons, List.map_nil, List.filter_cons, hb, if_true, List.filter_nil]
    rw [insP_snoc]; rfl
  | false =>
    rw [if_neg (by simp)]
    simp only [List.map_cons, List.map_nil, List.filter_cons, hb, List.filter_nil]
    rw [if_neg (by simp), List.append_nil]; rfl
theorem orderF_len (s : St) (k : Nat) : (orderF s k).length ≤ k := by
  rw [orderF, (insP_perm _ _ _).length_eq, List.append_nil]
  refine Nat.le_trans (List.length_filter_le _ _) ?_
  simp
  omega
theorem stOf_wf (s : St) (nm : List UInt8) : Wf4 (stOf s nm).2.1 (stOf s nm).2.2.1 (stOf s nm).2.2.2.1 (stOf s nm).2.2.2.2 := by
  have h1 := resOk_small (used_ok s nm)
  have h2 := resOk_small (due_ok s nm)
  have w : ∀ x : Int, Small x → (Lit.int .i64 x).wf = true := fun x hx => by
    obtain ⟨a, b⟩ := hx
    have h1 : (-9223372036854775808 : Int) ≤ x := by omega
    have h2 : x ≤ 9223372036854775807 := by omega
    simp only [Lit.wf, Bool.and_eq_true, decide_eq_true_eq]
    exact ⟨h1, h2⟩
  exact ⟨w _ h1.1, w _ h1.2, w _ h2.1, w _ h2.2⟩
end Go.Proofs.YtbgamlegiikggaaGreat
