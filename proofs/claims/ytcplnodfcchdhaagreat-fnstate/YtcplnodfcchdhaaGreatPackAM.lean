/-
  Several texts of this claim in one: InvR, VarB, RegM (pack.py put them together); each says in its own remark what is proved.
-/
import Derived.Test.YtcplnodfcchdhaaGreatPackJ
import Derived.Test.YtcplnodfcchdhaaGreatPackL
import Derived.Test.YtcplnodfcchdhaaGreatPackD
/-
  A region that draws its order, by one word on what is done, what stands and the world, which every operation that may come up keeps.
-/
namespace Go.Proofs.YtcplnodfcchdhaaGreat
open Go.RowKit
set_option linter.unusedVariables false
/-- each of the operations comes up next; behind it S holds, and the word -/
def AllReadyI (P : Program) (md : Region.Mode) (ops : Array Oper) (Q : Exit → Act → World → Prop) (S : World → Prop) (I : Nat → Array Bool → Act → World → Prop) (n : Nat) (listed : Array Bool) (a : Act) (w : World) (rs : List Nat) : Prop :=
  ∀ i ∈ rs, wpOp P ops Q i (fun a' w' => S w' ∧ I n (listed.setIfInBounds i true) a' w') a w
theorem AllReadyI.nil {P : Program} {md : Region.Mode} {ops : Array Oper} {Q : Exit → Act → World → Prop} {S : World → Prop} {I : Nat → Array Bool → Act → World → Prop} {n : Nat} {listed : Array Bool} {a : Act} {w : World} : AllReadyI P md ops Q S I n listed a w [] := fun _ h => by cases h
theorem AllReadyI.cons {P : Program} {md : Region.Mode} {ops : Array Oper} {Q : Exit → Act → World → Prop} {S : World → Prop} {I : Nat → Array Bool → Act → World → Prop} {n : Nat} {listed : Array Bool} {a : Act} {w : World} {i : Nat} {o : Oper} {rs : List Nat} (ho : ops[i]? = some o)
    (h : ∀ K' : Act → World → Prop, Shut (∀ a w, S w → I n (listed.setIfInBounds i true) a w → K' a w) → if Region.wanted o (yielded ops a.tmps) = true then Oper.wp P o a w K' Q else K' (a.put o.dst undef) w)
    (hs : AllReadyI P md ops Q S I n listed a w rs) : AllReadyI P md ops Q S I n listed a w (i :: rs) := fun j hj => by
  rcases List.mem_cons.1 hj with rfl | hj
  · exact wpOp_step ho (fun K' hK => h K' (fun a w hS hW => hK a w ⟨hS, hW⟩))
  · exact hs j hj
theorem wpAnyH_inv {P : Program} {ops : Array Oper} {Q : Exit → Act → World → Prop} {md : Region.Mode} {S : World → Prop} (I : Nat → Array Bool → Act → World → Prop)
    (step : ∀ n listed a w, I (n + 1) listed a w → Region.ready md ops listed ≠ [] ∧ AllReadyI P md ops Q S I n listed a w (Region.ready md ops listed))
    (fin : ∀ listed a w, I 0 listed a w → Region.ready md ops listed = [] ∧ Q .normal a w) :
    ∀ n listed a w, I n listed a w → wpAnyH P md ops Q S n listed a w
  | 0, listed, a, w, h => fin listed a w h
  | n + 1, listed, a, w, h => ⟨fun e => absurd e (step n listed a w h).1, fun i hi => wpOp_mono (fun a' w' k => ⟨k.1, wpAnyH_inv I step fin n _ a' w' k.2⟩) ((step n listed a w h).2 i hi)⟩
theorem ready_step {P : Program} {ops : Array Oper} {Q : Exit → Act → World → Prop} {md : Region.Mode} {S : World → Prop} {I : Nat → Array Bool → Act → World → Prop} {n : Nat} {listed : Array Bool} {a : Act} {w : World} {rs : List Nat} (hr : Region.ready md ops listed = rs) (hne : rs ≠ [])
    (h : AllReadyI P md ops Q S I n listed a w rs) : Region.ready md ops listed ≠ [] ∧ AllReadyI P md ops Q S I n listed a w (Region.ready md ops listed) := by
  subst hr
  exact ⟨hne, h⟩
end Go.Proofs.YtcplnodfcchdhaaGreat

/-
  A variable that holds an amount, made since a world.
-/
namespace Go.Proofs.YtcplnodfcchdhaaGreat
open Go.RowKit
set_option linter.unusedVariables false
/-- a variable made since w1 -/
def VB (w1 w : World) (g : Nat) (x y : Int) : Prop := w1.heap.size ≤ g ∧ Var w 33 g x y
theorem VB.below {w1 w w' : World} {g : Nat} {x y : Int} (h : VB w1 w g x y) (hb : Below w.heap.size w w') : VB w1 w' g x y := ⟨h.1, h.2.below hb⟩
theorem VB.al {w1 w : World} {g : Nat} {x y : Int} (h : VB w1 w g x y) (o : Obj) : VB w1 (w.alloc o) g x y := ⟨h.1, h.2.al o⟩
theorem VB.ne {w1 w : World} {g : Nat} {x y : Int} (h : VB w1 w g x y) : g ≠ w.heap.size := Nat.ne_of_lt h.2.lt
theorem vb_new {w1 w : World} (h : Below w1.heap.size w1 w) : VB w1 (w.alloc (.cells #[.int .i64 0, .int .i64 0] 33)) w.heap.size 0 0 := ⟨h.size, var_new w _ 0 0⟩
theorem VB.set {w1 w : World} {g : Nat} {a b : Int} (h : VB w1 w g a b) (x y : Int) : VB w1 ((w.setCell ⟨g, 0, none⟩ (.int .i64 x)).setCell ⟨g, 1, none⟩ (.int .i64 y)) g x y := ⟨h.1, h.2.set x y⟩
theorem VB.off {w1 w : World} {g k : Nat} {a b : Int} (h : VB w1 w g a b) (hn : g ≠ k) {u v : Value} : VB w1 ((w.setCell ⟨k, 0, none⟩ u).setCell ⟨k, 1, none⟩ v) g a b := ⟨h.1, (h.2.other k 0 u hn).other k 1 v hn⟩
theorem VB.kp {w1 w : World} {g : Nat} {a b : Int} (h : VB w1 w g a b) (hk : Below w1.heap.size w1 w) {u v : Value} : Below w1.heap.size w1 ((w.setCell ⟨g, 0, none⟩ u).setCell ⟨g, 1, none⟩ v) := below_sc (below_sc hk _ _ _ h.1) _ _ _ h.1
end Go.Proofs.YtcplnodfcchdhaaGreat

/-
  A region that draws its order, with calls in a chain, variables of amounts made anywhere among them, and a store into each at its end: by one word, for any number of them; and operations taken first, said shortly.
-/
namespace Go.Proofs.YtcplnodfcchdhaaGreat
open Go.RowKit
set_option linter.unusedVariables false
def flags : Nat → List (List Bool)
  | 0 => [[]]
  | k + 1 => (flags k).map (false :: ·) ++ (flags k).map (true :: ·)
theorem mem_flags : ∀ (f : List Bool), f ∈ flags f.length
  | [] => by simp [flags]
  | b :: t => by
    have := mem_flags t
    cases b <;> simp [flags, this]
/-- the places of the calls, of the variables and of the stores -/
structure Mul where
  n : Nat
  cs : List Nat
  al : List Nat
  st : List Nat
  l0 : List Bool
def Mul.lst (M : Mul) (c : Nat) (f : List Bool) (s : Nat) : Array Bool :=
  ((List.range M.n).map fun i => M.l0.getD i false || ((M.cs.take c).contains i || (((M.al.zip f).any fun p => p.1 == i && p.2) || (M.st.take s).contains i))).toArray
/-- what may come up next, and what it is: 0 a call, 1 a store, j + 2 the variable j -/
def Mul.nxt (M : Mul) (c : Nat) (f : List Bool) (s : Nat) : List (Nat × Nat) :=
  (List.range M.n).filterMap fun i =>
    if M.cs[c]? = some i then some (i, 0)
    else match (List.range M.al.length).find? (fun j => M.al[j]? == some i && f[j]? == some false) with
      | some j => some (i, j + 2)
      | none => if decide (c = M.cs.length) && (f.all id && decide (M.st[s]? = some i)) then some (i, 1) else none
def Mul.to (c : Nat) (f : List Bool) (s : Nat) : Nat → Nat × List Bool × Nat
  | 0 => (c + 1, f, s)
  | 1 => (c, f, s + 1)
  | j + 2 => (c, f.set j true, s)
def Mul.one (M : Mul) (md : Region.Mode) (ops : Array Oper) (c : Nat) (f : List Bool) (s : Nat) : Bool :=
  decide (Region.ready md ops (M.lst c f s) = (M.nxt c f s).map (·.1)) &&
  ((M.nxt c f s).isEmpty == (decide (c = M.cs.length) && (f.all id && decide (s = M.st.length)))) &&
  (M.nxt c f s).all fun p => decide ((M.lst c f s).setIfInBounds p.1 true = M.lst (Mul.to c f s p.2).1 (Mul.to c f s p.2).2.1 (Mul.to c f s p.2).2.2) &&
    (match p.2 with | 0 => decide (M.cs[c]? = some p.1) | 1 => decide (c = M.cs.length) && (f.all id && decide (M.st[s]? = some p.1)) | j + 2 => decide (M.al[j]? = some p.1) && f[j]? == some false)
def Mul.ok (M : Mul) (md : Region.Mode) (ops : Array Oper) : Bool :=
  decide (M.al.length = M.st.length) && ((List.range (M.cs.length + 1)).all fun c => (flags M.al.length).all fun f => M.one md ops c f 0) && (List.range (M.st.length + 1)).all fun s => M.one md ops M.cs.length (List.replicate M.al.length true) s
theorem all_true {f : List Bool} (h : f.all id = true) : f = List.replicate f.length true := by
  induction f with
  | nil => rfl
  | cons b t ih =>
    simp only [List.all_cons, id, Bool.and_eq_true] at h
    rw [List.length_cons, List.replicate_succ, ← ih h.2, h.1]
theorem Mul.at {M : Mul} {md : Region.Mode} {ops : Array Oper} (h : M.ok md ops = true) {c : Nat} {f : List Bool} {s : Nat} (hc : c ≤ M.cs.length) (hf : f.length = M.al.length) (hs : s ≤ M.st.length) (h0 : 0 < s → c = M.cs.length ∧ f.all id = true) : M.one md ops c f s = true := by
  simp only [Mul.ok, Bool.and_eq_true, List.all_eq_true, List.mem_range] at h
  obtain ⟨⟨_, h1⟩, h2⟩ := h
  by_cases e : s = 0
  · subst e
    exact h1 c (by omega) f (by rw [← hf]; exact mem_flags f)
  · obtain ⟨rfl, h3⟩ := h0 (by omega)
    have := all_true h3
    rw [hf] at this
    rw [this]
    exact h2 s (by omega)
/-- an operation, as the walk meets it -/
def Mul.step (P : Program) (ops : Array Oper) (Q : Exit → Act → World → Prop) (i : Nat) (a : Act) (w : World) (K : Act → World → Prop) : Prop :=
  ∃ o, ops[i]? = some o ∧ (if Region.wanted o (yielded ops a.tmps) = true then Oper.wp P o a w K Q else K (a.put o.dst undef) w)
theorem count_set {f : List Bool} {j : Nat} (h : f[j]? = some false) : (f.set j true).count false + 1 = f.count false := by
  induction f generalizing j with
  | nil => simp at h
  | cons b t ih =>
    cases j with
    | zero => simp at h; subst h; simp
    | succ j => simp at h; have := ih h; simp only [List.set_cons_succ, List.count_cons]; omega
theorem count_none {f : List Bool} (h : f.all id = true) : f.count false = 0 := by rw [all_true h]; simp [List.count_replicate]
theorem wpAnyH_is {P : Program} {md : Region.Mode} {ops : Array Oper} {Q : Exit → Act → World → Prop} {S : World → Prop} {n n' : Nat} {l l' : Array Bool} {a a' : Act} {w : World} (hn : n = n') (hl : l = l') (ha : a = a') (h : wpAnyH P md ops Q S n' l' a' w) : wpAnyH P md ops Q S n l a w := by
  subst hn hl ha
  exact h
/-- a variable's place, where it is made; what a call answered, where it was called -/
def mkPtr (b : Bool) (g : Nat) : Value := match b with | true => .pointer (some ⟨g, 0, none⟩) | false => undef
def mkRes (b : Bool) (v : Value) : Value := match b with | true => v | false => undef
theorem list4 {α : Type} {l : List α} (h : l.length = 4) : ∃ a b c d, l = [a, b, c, d] := by
  match l, h with
  | [a, b, c, d], _ => exact ⟨a, b, c, d, rfl⟩
theorem list3 {α : Type} {l : List α} (h : l.length = 3) : ∃ a b c, l = [a, b, c] := by
  match l, h with
  | [a, b, c], _ => exact ⟨a, b, c, rfl⟩
theorem region_multi {P : Program} {md : Region.Mode} {ops : Array Oper} {Q : Exit → Act → World → Prop} {w1 : World} (M : Mul) (Fr : Nat → List Bool → List Nat → Act) (vals : List (Int × Int)) (hv : vals.length = M.al.length)
    (hok : M.ok md ops = true)
    (hcall : ∀ c f us w K, c < M.cs.length → f.length = M.al.length → us.length = M.al.length → Kp w1 w → (∀ w', Below w.heap.size w w' → K (Fr (c + 1) f us) w') → Mul.step P ops Q (M.cs.getD c 0) (Fr c f us) w K)
    (hal : ∀ j c f us w K, c ≤ M.cs.length → f.length = M.al.length → us.length = M.al.length → f[j]? = some false → K (Fr c (f.set j true) (us.set j w.heap.size)) (w.alloc (.cells #[.int .i64 0, .int .i64 0] 33)) → Mul.step P ops Q (M.al.getD j 0) (Fr c f us) w K)
    (hst : ∀ s us w K, s < M.al.length → us.length = M.al.length → Var w 33 (us.getD s 0) 0 0 → K (Fr M.cs.length (List.replicate M.al.length true) us) ((w.setCell ⟨us.getD s 0, 0, none⟩ (.int .i64 (vals.getD s (0, 0)).1)).setCell ⟨us.getD s 0, 1, none⟩ (.int .i64 (vals.getD s (0, 0)).2)) → Mul.step P ops Q (M.st.getD s 0) (Fr M.cs.length (List.replicate M.al.length true) us) w K)
    (fin : ∀ us w, us.length = M.al.length → (∀ j, j < M.al.length → VB w1 w (us.getD j 0) (vals.getD j (0, 0)).1 (vals.getD j (0, 0)).2) → Kp w1 w → Q .normal (Fr M.cs.length (List.replicate M.al.length true) us) w)
    (w : World) (hw : Kp w1 w) : wpAnyH P md ops Q (Kp w1) (M.cs.length + M.al.length + M.al.length) (M.lst 0 (List.replicate M.al.length false) 0) (Fr 0 (List.replicate M.al.length false) (List.replicate M.al.length 0)) w := by
  have hla : M.al.length = M.st.length := by have := hok; simp only [Mul.ok, Bool.and_eq_true, decide_eq_true_eq] at this; exact this.1.1
  refine wpAnyH_inv (fun n lz az wz => ∃ c f us s, c ≤ M.cs.length ∧ f.length = M.al.length ∧ us.length = M.al.length ∧ s ≤ M.al.length ∧ (0 < s → c = M.cs.length ∧ f.all id = true) ∧ n = (M.cs.length - c) + f.count false + (M.al.length - s) ∧ lz = M.lst c f s ∧ az = Fr c f us
      ∧ (∀ j, f[j]? = some true → VB w1 wz (us.getD j 0) (if j < s then (vals.getD j (0, 0)).1 else 0) (if j < s then (vals.getD j (0, 0)).2 else 0)) ∧ (∀ i j, f[i]? = some true → f[j]? = some true → i ≠ j → us.getD i 0 ≠ us.getD j 0) ∧ Kp w1 wz) ?_ ?_ _ _ _ _ ⟨0, _, _, 0, Nat.zero_le _, by simp, by simp, Nat.zero_le _, fun h => absurd h (by omega), by simp, rfl, rfl, fun j hj => by simp [List.getElem?_replicate] at hj, fun i j hi => by simp [List.getElem?_replicate] at hi, hw⟩
  · rintro n lz az wz ⟨c, f, us, s, hc, hf, hu, hs, h0, hn, rfl, rfl, hV, hD, hk⟩
    have hone := Mul.at hok hc hf (by omega) h0
    simp only [Mul.one, Bool.and_eq_true, decide_eq_true_eq, List.all_eq_true] at hone
    obtain ⟨⟨hr, he⟩, hall⟩ := hone
    have hne : (M.nxt c f s).map (·.1) ≠ [] := fun e => by
      have e' : M.nxt c f s = [] := List.map_eq_nil_iff.1 e
      rw [e'] at he
      simp only [List.isEmpty_nil, beq_iff_eq] at he
      have he' := he.symm
      simp only [Bool.and_eq_true, decide_eq_true_eq] at he'
      have := count_none he'.2.1
      omega
    refine ready_step hr hne (fun i hi => ?_)
    obtain ⟨⟨i', k⟩, hp, rfl⟩ := List.mem_map.1 hi
    obtain ⟨hset, hk'⟩ := hall _ hp
    simp only at hset hk'
    match k, hset, hk' with
    | 0, hset, hk' =>
      simp only [decide_eq_true_eq] at hk'
      have hlt : c < M.cs.length := (List.getElem?_eq_some_iff.1 hk').1
      have hcd : M.cs.getD c 0 = i' := by rw [List.getD_eq_getElem?_getD, hk']; rfl
      obtain ⟨o, ho, hh⟩ := hcall c f us wz (fun a' w' => Kp w1 w' ∧ ∃ c' f' us' s', c' ≤ M.cs.length ∧ f'.length = M.al.length ∧ us'.length = M.al.length ∧ s' ≤ M.al.length ∧ (0 < s' → c' = M.cs.length ∧ f'.all id = true) ∧ n = (M.cs.length - c') + f'.count false + (M.al.length - s') ∧ (M.lst c f s).setIfInBounds i' true = M.lst c' f' s' ∧ a' = Fr c' f' us' ∧ (∀ j, f'[j]? = some true → VB w1 w' (us'.getD j 0) (if j < s' then (vals.getD j (0, 0)).1 else 0) (if j < s' then (vals.getD j (0, 0)).2 else 0)) ∧ (∀ i j, f'[i]? = some true → f'[j]? = some true → i ≠ j → us'.getD i 0 ≠ us'.getD j 0) ∧ Kp w1 w') hlt hf hu hk
        (fun w' hb => ⟨below_on hk hb, c + 1, f, us, s, hlt, hf, hu, hs, fun h => absurd (h0 h).1 (by omega), by omega, hset, rfl, fun j hj => (hV j hj).below hb, hD, below_on hk hb⟩)
      rw [hcd] at ho
      exact wpOp_step ho (fun K' hK => by
        split
        · rename_i hw; rw [if_pos hw] at hh; exact Oper.wp_mono (fun _ _ h => hK _ _ h) hh
        · rename_i hw; rw [if_neg hw] at hh; exact hK _ _ hh)
    | 1, hset, hk' =>
      simp only [Bool.and_eq_true, decide_eq_true_eq] at hk'
      obtain ⟨rfl, hft, hst'⟩ := hk'
      have hsl : s < M.al.length := by rw [hla]; exact (List.getElem?_eq_some_iff.1 hst').1
      have hft' := all_true hft
      rw [hf] at hft'
      have hj : f[s]? = some true := by rw [hft', List.getElem?_replicate, if_pos hsl]
      have hcd : M.st.getD s 0 = i' := by rw [List.getD_eq_getElem?_getD, hst']; rfl
      have hvs := hV s hj
      rw [if_neg (by omega), if_neg (by omega)] at hvs
      obtain ⟨o, ho, hh⟩ := hst s us wz (fun a' w' => Kp w1 w' ∧ ∃ c' f' us' s', c' ≤ M.cs.length ∧ f'.length = M.al.length ∧ us'.length = M.al.length ∧ s' ≤ M.al.length ∧ (0 < s' → c' = M.cs.length ∧ f'.all id = true) ∧ n = (M.cs.length - c') + f'.count false + (M.al.length - s') ∧ (M.lst M.cs.length f s).setIfInBounds i' true = M.lst c' f' s' ∧ a' = Fr c' f' us' ∧ (∀ j, f'[j]? = some true → VB w1 w' (us'.getD j 0) (if j < s' then (vals.getD j (0, 0)).1 else 0) (if j < s' then (vals.getD j (0, 0)).2 else 0)) ∧ (∀ i j, f'[i]? = some true → f'[j]? = some true → i ≠ j → us'.getD i 0 ≠ us'.getD j 0) ∧ Kp w1 w') hsl hu hvs.2
        ⟨hvs.kp hk, M.cs.length, f, us, s + 1, Nat.le_refl _, hf, hu, hsl, fun _ => ⟨rfl, hft⟩, by have := count_none hft; omega, hset, by rw [← hft'], fun j hj' => by
          by_cases e : j = s
          · subst e
            rw [if_pos (by omega), if_pos (by omega)]
            exact hvs.set _ _
          · have h1 := (hV j hj').off (hD j s hj' hj e) (u := .int .i64 (vals.getD s (0, 0)).1) (v := .int .i64 (vals.getD s (0, 0)).2)
            by_cases e2 : j < s
            · rw [if_pos e2, if_pos e2] at h1
              rw [if_pos (by omega), if_pos (by omega)]
              exact h1
            · rw [if_neg e2, if_neg e2] at h1
              rw [if_neg (by omega), if_neg (by omega)]
              exact h1, hD, hvs.kp hk⟩
      rw [hcd] at ho
      rw [hft']
      rw [← hft'] at hh ⊢
      exact wpOp_step ho (fun K' hK => by
        rw [hft'] at hK ⊢
        rw [hft'] at hh
        split
        · rename_i hw; rw [if_pos hw] at hh; exact Oper.wp_mono (fun _ _ h => hK _ _ h) hh
        · rename_i hw; rw [if_neg hw] at hh; exact hK _ _ hh)
    | j + 2, hset, hk' =>
      simp only [Bool.and_eq_true, decide_eq_true_eq, beq_iff_eq] at hk'
      obtain ⟨ha, hfj⟩ := hk'
      have hjl : j < M.al.length := (List.getElem?_eq_some_iff.1 ha).1
      have hcd : M.al.getD j 0 = i' := by rw [List.getD_eq_getElem?_getD, ha]; rfl
      have hs0 : s = 0 := by
        by_cases e : s = 0
        · exact e
        · have h1 := all_true (h0 (by omega)).2
          rw [h1, List.getElem?_replicate, if_pos (by omega)] at hfj
          cases hfj
      obtain ⟨o, ho, hh⟩ := hal j c f us wz (fun a' w' => Kp w1 w' ∧ ∃ c' f' us' s', c' ≤ M.cs.length ∧ f'.length = M.al.length ∧ us'.length = M.al.length ∧ s' ≤ M.al.length ∧ (0 < s' → c' = M.cs.length ∧ f'.all id = true) ∧ n = (M.cs.length - c') + f'.count false + (M.al.length - s') ∧ (M.lst c f s).setIfInBounds i' true = M.lst c' f' s' ∧ a' = Fr c' f' us' ∧ (∀ j, f'[j]? = some true → VB w1 w' (us'.getD j 0) (if j < s' then (vals.getD j (0, 0)).1 else 0) (if j < s' then (vals.getD j (0, 0)).2 else 0)) ∧ (∀ i j, f'[i]? = some true → f'[j]? = some true → i ≠ j → us'.getD i 0 ≠ us'.getD j 0) ∧ Kp w1 w') hc hf hu hfj
        ⟨below_al hk _, c, f.set j true, us.set j wz.heap.size, s, hc, by simpa using hf, by simpa using hu, hs, fun h => absurd h (by omega), by have := count_set hfj; omega, hset, rfl, fun x hx => by
          subst hs0
          rw [if_neg (by omega), if_neg (by omega)]
          by_cases e : x = j
          · subst e
            rw [List.getD_eq_getElem?_getD, List.getElem?_set_self (by omega)]
            exact vb_new hk
          · rw [List.getElem?_set_ne (fun h => e h.symm)] at hx
            rw [List.getD_eq_getElem?_getD, List.getElem?_set_ne (fun h => e h.symm), ← List.getD_eq_getElem?_getD]
            have := hV x hx
            rw [if_neg (by omega), if_neg (by omega)] at this
            exact this.al _, fun x y hx hy hne2 => by
          by_cases e : x = j
          · subst e
            by_cases e2 : y = x
            · exact absurd e2.symm hne2
            · rw [List.getElem?_set_ne (fun h => e2 h.symm)] at hy
              rw [List.getD_eq_getElem?_getD, List.getElem?_set_self (by omega), List.getD_eq_getElem?_getD, List.getElem?_set_ne (fun h => e2 h.symm), ← List.getD_eq_getElem?_getD]
              exact (hV y hy).ne.symm
          · rw [List.getElem?_set_ne (fun h => e h.symm)] at hx
            rw [List.getD_eq_getElem?_getD (l := us.set j wz.heap.size) (i := x), List.getElem?_set_ne (fun h => e h.symm), ← List.getD_eq_getElem?_getD]
            by_cases e2 : y = j
            · subst e2
              rw [List.getD_eq_getElem?_getD (l := us.set y wz.heap.size), List.getElem?_set_self (by omega)]
              exact (hV x hx).ne
            · rw [List.getElem?_set_ne (fun h => e2 h.symm)] at hy
              rw [List.getD_eq_getElem?_getD (l := us.set j wz.heap.size), List.getElem?_set_ne (fun h => e2 h.symm), ← List.getD_eq_getElem?_getD]
              exact hD x y hx hy hne2, below_al hk _⟩
      rw [hcd] at ho
      exact wpOp_step ho (fun K' hK => by
        split
        · rename_i hw; rw [if_pos hw] at hh; exact Oper.wp_mono (fun _ _ h => hK _ _ h) hh
        · rename_i hw; rw [if_neg hw] at hh; exact hK _ _ hh)
  · rintro lz az wz ⟨c, f, us, s, hc, hf, hu, hs, h0, hn, rfl, rfl, hV, hD, hk⟩
    have hone := Mul.at hok hc hf (by omega) h0
    simp only [Mul.one, Bool.and_eq_true, decide_eq_true_eq, List.all_eq_true] at hone
    obtain ⟨⟨hr, he⟩, _⟩ := hone
    have hcc : c = M.cs.length := by omega
    have hfa : f.all id = true := by
      rw [List.all_eq_true]
      intro b hb
      cases b with
      | true => rfl
      | false => have := List.count_pos_iff.2 hb; omega
    have hss : s = M.al.length := by omega
    subst hcc hss
    have hf' := all_true hfa
    rw [hf] at hf'
    refine ⟨?_, ?_⟩
    · rw [hr]
      have : (M.nxt M.cs.length f M.al.length).isEmpty = true := by
        simp only [beq_iff_eq] at he
        rw [he, hfa, hla]
        simp
      rw [List.isEmpty_iff.1 this]
      rfl
    · rw [hf']
      refine fin us wz hu (fun j hj => ?_) hk
      have := hV j (by rw [hf', List.getElem?_replicate, if_pos hj])
      rw [if_pos hj, if_pos hj] at this
      exact this
end Go.Proofs.YtcplnodfcchdhaaGreat
