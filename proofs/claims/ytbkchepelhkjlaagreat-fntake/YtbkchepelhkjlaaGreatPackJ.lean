/-
  Several texts of this claim in one: RegX, StBx, WfS, DrC, RightS, In, Res, BothM, Both (pack.py put them together); each says in its own remark what is proved.
-/
import Derived.Test.YtbkchepelhkjlaaGreatPackI
import Derived.Test.YtbkchepelhkjlaaGreatPackH
import Derived.Test.YtbkchepelhkjlaaGreatPackB
import Derived.Test.YtbkchepelhkjlaaGreatPackA
/-
 A region that draws its order: a part of what is held of the world is asked for only until one operation, X, has come up: so a cell that is loaded ahead of X may be stored into behind it.
-/
namespace Go.Proofs.YtbkchepelhkjlaaGreat
open Go.RowKit
set_option linter.unusedVariables false
/-- behind each operation S holds, and ahead of X also T -/
def wpAnyX (P : Program) (md : Region.Mode) (ops : Array Oper) (Q : Exit → Act → World → Prop) (X : Nat) (S T : World → Prop) : Nat → Array Bool → Act → World → Prop
 | 0, listed, a, w => Region.ready md ops listed = [] ∧ Q .normal a w
 | fuel + 1, listed, a, w => (Region.ready md ops listed = [] → Q .normal a w) ∧
  ∀ i ∈ Region.ready md ops listed, wpOp P ops Q i (fun a' w' => S w' ∧ ((listed.setIfInBounds i true).getD X false = false → T w') ∧ wpAnyX P md ops Q X S T fuel (listed.setIfInBounds i true) a' w') a w
section
variable {P : Program} {ops : Array Oper} {Q : Exit → Act → World → Prop} {md : Region.Mode} {X : Nat} {S T : World → Prop}
theorem wpAny_of_x : ∀ (fuel : Nat) (listed : Array Bool) (a : Act) (w : World), wpAnyX P md ops Q X S T fuel listed a w → wpAny P md ops Q fuel listed a w
 | 0, _, _, _, h => h
 | fuel + 1, _, _, _, h => ⟨h.1, fun i hi => wpOp_mono (fun a' w' h' => wpAny_of_x fuel _ a' w' h'.2.2) (h.2 i hi)⟩
theorem wp_region_x {id : Nat} {a : Act} {w : World} (X : Nat) (S T : World → Prop) (hm : P.follows .mixedOrders = true) (h1 : S w.drew) (h2 : T w.drew)
  (h : S w.drew → T w.drew → wpAnyX P .any ops Q X S T ops.size (Array.replicate ops.size false) a w.drew) : (Code.region id ops true).wp P Q a w :=
 wp_region_any hm (wpAny_of_x _ _ _ _ (h h1 h2))
/-- behind X what is held is S alone -/
theorem wpAnyX_on : ∀ (fuel : Nat) (listed : Array Bool) (a : Act) (w : World), listed.getD X false = true → wpAnyH P md ops Q S fuel listed a w → wpAnyX P md ops Q X S T fuel listed a w
 | 0, _, _, _, _, h => h
 | fuel + 1, _, _, _, hX, h => ⟨h.1, fun i hi => wpOp_mono (fun a' w' h' => ⟨h'.1, (fun e => by rw [getD_set_true hX] at e; cases e), wpAnyX_on fuel _ a' w' (getD_set_true hX) h'.2⟩) (h.2 i hi)⟩
theorem wpAnyX_first {i : Nat} {oi : Oper} {v : Value} {U : World → Prop} (hi : ops[i]? = some oi) (hsel : ∀ (j : Nat) (o : Oper) cs b, ops[j]? = some o → o.op ≠ .select cs b) (hXi : i ≠ X)
  (hQ : ∀ c a w, Q (.panic c) (a.put oi.dst v) w → Q (.panic c) a w)
  (c : Bool) (hU1 : c = true → ∀ w, S w → U w) (hU2 : c = false → (∀ w, T w → U w) ∧ ∃ ox, ops[X]? = some ox ∧ ∃ e ∈ ox.after, Region.binds md e = true ∧ e.on = i) :
  ∀ (fuel : Nat) (listed : Array Bool) (a : Act) (w : World),
   (∀ j oj, ops[j]? = some oj → j ≠ i → listed.getD j true = false → (∀ e ∈ oj.after, Region.binds md e = true → e.on ≠ i) → oi.apart ops oj = true) →
   i ∈ Region.ready md ops listed → YieldsIf P ops U oi v a → (c = false → listed.getD X false = false) → S w → (listed.getD X false = false → T w) →
   wpAnyX P md ops Q X S T fuel (listed.setIfInBounds i true) (a.put oi.dst v) w → wpAnyX P md ops Q X S T (fuel + 1) listed a w := by
 have hw : ∀ (listed : Array Bool) w, (c = false → listed.getD X false = false) → S w → (listed.getD X false = false → T w) → U w := fun listed w h0 h1 h2 => by
  cases c
  ·exact (hU2 rfl).1 w (h2 (h0 rfl))
  ·exact hU1 rfl w h1
 intro fuel
 induction fuel with
 | zero =>
  intro listed a w _ hr hy hX h1 h2 H
  refine ⟨fun h => (by rw [h] at hr; cases hr), fun j hj => ?_⟩
  by_cases hji : j = i
  ·subst hji; exact hy.wpOp hi (hw listed w hX h1 h2) ⟨h1, fun e => h2 (by rwa [getD_set_ne false hXi] at e), H⟩
  ·have := ready_mono hj hji
   rw [H.1] at this
   cases this
 | succ fuel ih =>
  intro listed a w hfree hr hy hX h1 h2 H
  refine ⟨fun h => (by rw [h] at hr; cases hr), fun j hj => ?_⟩
  by_cases hji : j = i
  ·subst hji; exact hy.wpOp hi (hw listed w hX h1 h2) ⟨h1, fun e => h2 (by rwa [getD_set_ne false hXi] at e), H⟩
  ·have k1 := H.2 j (ready_mono hj hji)
   obtain ⟨hjun, oj, hoj, hall⟩ := mem_ready.1 hj
   have hnot : ∀ e ∈ oj.after, Region.binds md e = true → e.on ≠ i := fun e he hb heq => by
    have q1 := hall e he hb
    have q0 := (mem_ready.1 hr).1
    rw [heq] at q1
    rcases Nat.lt_or_ge i listed.size with h' | h'
    ·simp [h'] at q0 q1; rw [q0] at q1; cases q1
    ·simp [Array.getElem?_eq_none h'] at q1
   have k2 := wpOp_putIf hoj (hfree j oj hoj hji hjun hnot) (fun cs b => hsel i oi cs b hi) (fun cs b => hsel j oj cs b hoj) hQ hy k1
   have hfree' : ∀ k ok, ops[k]? = some ok → k ≠ i → (listed.setIfInBounds j true).getD k true = false →
     (∀ e ∈ ok.after, Region.binds md e = true → e.on ≠ i) → oi.apart ops ok = true := fun k ok hk hki hun hno => by
    refine hfree k ok hk hki ?_ hno
    by_cases hjk : j = k
    ·subst hjk; exact hjun
    ·rw [getD_set_ne true hjk] at hun; exact hun
   refine wpOp_mono (fun a' w' h3 => ?_) k2
   obtain ⟨y1, s1, t1, H1⟩ := h3
   rw [Array.setIfInBounds_comm _ _ (Ne.symm hji)] at H1
   have t2 : (listed.setIfInBounds j true).getD X false = false → T w' := fun e => by
    refine t1 ?_
    by_cases hjX : j = X
    ·subst hjX
     rw [Array.setIfInBounds_comm _ _ (Ne.symm hji), getD_set_ne false hXi]
     exact e
    ·rw [getD_set_ne false hjX, getD_set_ne false hXi]
     rw [getD_set_ne false hjX] at e
     exact e
   refine ⟨s1, t2, ih (listed.setIfInBounds j true) a' w' hfree' (ready_mono hr (Ne.symm hji)) y1 (fun hc => ?_) s1 t2 H1⟩
   have hjX : j ≠ X := fun e => by
    subst e
    obtain ⟨_, ox, hox, e, he, hb, heq⟩ := hU2 hc
    rw [hox] at hoj
    cases hoj
    exact hnot e he hb heq
   rw [getD_set_ne false hjX]
   exact hX hc
/-- does X wait for i -/
def waitsOn (md : Region.Mode) (ops : Array Oper) (X i : Nat) : Bool := ((ops[X]?).map fun o => o.after.any fun e => Region.binds md e && e.on == i).getD false
theorem waits_spec {i : Nat} (h : waitsOn md ops X i = true) : ∃ ox, ops[X]? = some ox ∧ ∃ e ∈ ox.after, Region.binds md e = true ∧ e.on = i := by
 unfold waitsOn at h
 cases ho : ops[X]? with
 | none => rw [ho] at h; simp at h
 | some o =>
  rw [ho] at h
  simp only [Option.map_some, Option.getD_some] at h
  obtain ⟨e, he, hb⟩ := Array.any_eq_true'.1 h
  simp only [Bool.and_eq_true, beq_iff_eq] at hb
  exact ⟨o, rfl, e, he, hb.1, hb.2⟩
/-- one that yields wherever S holds is taken first -/
theorem takeXS {oi : Oper} {fuel : Nat} {listed : Array Bool} {a : Act} {w : World} (i d : Nat) (v : Value) (hi : ops[i]? = some oi) (hd : oi.dst = some d) (hS : S w) (hT : T w)
  (h : wpAnyX P md ops Q X S T fuel (listed.setIfInBounds i true) (a.put (some d) v) w)
  (hy : YieldsIf P ops S oi v a := by exact Or.inl ⟨by rfl, fun wz hz => by (go_simp; try with_reducible rfl)⟩)
  (hs : Region.noSelect ops = true := by kernel_rfl) (hf : Region.free md ops listed i = true := by kernel_rfl) (hr : (Region.ready md ops listed).contains i = true := by kernel_rfl) (hX : (i != X) = true := by kernel_rfl)
  (hQ : ∀ c a w, Q (.panic c) (a.put (some d) v) w → Q (.panic c) a w := by exact fun _ _ _ h => h) : wpAnyX P md ops Q X S T (fuel + 1) listed a w := by
 rw [← hd] at h hQ
 exact wpAnyX_first hi (Region.noSelect_spec hs) (by simpa using hX) hQ true (fun _ _ h => h) (fun e => by cases e) fuel listed a w (Region.free_spec hi hf) (by simpa using hr) hy (fun e => by cases e) hS (fun _ => hT) h
/-- one that yields wherever T holds, and that X waits for, is taken first -/
theorem takeXT {oi : Oper} {fuel : Nat} {listed : Array Bool} {a : Act} {w : World} (i d : Nat) (v : Value) (hi : ops[i]? = some oi) (hd : oi.dst = some d) (hS : S w) (hT : T w)
  (h : wpAnyX P md ops Q X S T fuel (listed.setIfInBounds i true) (a.put (some d) v) w)
  (hy : YieldsIf P ops T oi v a := by exact Or.inl ⟨by rfl, fun wz hz => by (go_simp; try with_reducible rfl)⟩)
  (hs : Region.noSelect ops = true := by kernel_rfl) (hf : Region.free md ops listed i = true := by kernel_rfl) (hr : (Region.ready md ops listed).contains i = true := by kernel_rfl) (hX : (i != X) = true := by kernel_rfl)
  (hw : waitsOn md ops X i = true := by kernel_rfl) (hl : listed.getD X false = false := by kernel_rfl)
  (hQ : ∀ c a w, Q (.panic c) (a.put (some d) v) w → Q (.panic c) a w := by exact fun _ _ _ h => h) : wpAnyX P md ops Q X S T (fuel + 1) listed a w := by
 rw [← hd] at h hQ
 exact wpAnyX_first hi (Region.noSelect_spec hs) (by simpa using hX) hQ false (fun e => by cases e) (fun _ => ⟨fun _ h => h, waits_spec hw⟩) fuel listed a w (Region.free_spec hi hf) (by simpa using hr) hy (fun _ => hl) hS (fun _ => hT) h
def AllReadyX (P : Program) (md : Region.Mode) (ops : Array Oper) (Q : Exit → Act → World → Prop) (X : Nat) (S T : World → Prop) (fuel : Nat) (listed : Array Bool) (a : Act) (w : World) (rs : List Nat) : Prop :=
 ∀ i ∈ rs, wpOp P ops Q i (fun a' w' => S w' ∧ ((listed.setIfInBounds i true).getD X false = false → T w') ∧ wpAnyX P md ops Q X S T fuel (listed.setIfInBounds i true) a' w') a w
theorem AllReadyX.nil {fuel : Nat} {listed : Array Bool} {a : Act} {w : World} : AllReadyX P md ops Q X S T fuel listed a w [] := fun _ h => by cases h
theorem AllReadyX.cons {fuel : Nat} {listed : Array Bool} {a : Act} {w : World} {i : Nat} {o : Oper} {rs : List Nat} (ho : ops[i]? = some o)
  (h : ∀ K' : Act → World → Prop, Shut (∀ a w, S w → ((listed.setIfInBounds i true).getD X false = false → T w) → wpAnyX P md ops Q X S T fuel (listed.setIfInBounds i true) a w → K' a w) → if Region.wanted o (yielded ops a.tmps) = true then Oper.wp P o a w K' Q else K' (a.put o.dst undef) w)
  (hs : AllReadyX P md ops Q X S T fuel listed a w rs) : AllReadyX P md ops Q X S T fuel listed a w (i :: rs) := fun j hj => by
 rcases List.mem_cons.1 hj with rfl | hj
 ·exact wpOp_step ho (fun K' hK => h K' (fun a w h1 h2 h3 => hK a w ⟨h1, h2, h3⟩))
 ·exact hs j hj
theorem wpAnyX_ready {fuel : Nat} {listed : Array Bool} {a : Act} {w : World} (rs : List Nat) (h : AllReadyX P md ops Q X S T fuel listed a w rs) (hr : Region.ready md ops listed = rs := by kernel_rfl) (hne : (rs != []) = true := by kernel_rfl) : wpAnyX P md ops Q X S T (fuel + 1) listed a w :=
 ⟨fun h0 => absurd (hr ▸ h0) (by simpa using hne), hr ▸ h⟩
/-- an operation whose run is known -/
theorem readyV {o : Oper} {a : Act} {w w' : World} {K : Act → World → Prop} {v : Value} (d : Nat) (hw : Region.wanted o (yielded ops a.tmps) = true) (hd : o.dst = some d) (hr : (execOp a.eval o).run P w = .ok (.value v) w') (h : K (a.put (some d) v) w') : if Region.wanted o (yielded ops a.tmps) = true then Oper.wp P o a w K Q else K (a.put o.dst undef) w := by
 rw [← hd] at h
 rw [if_pos hw]
 unfold Oper.wp
 rw [hr]
 exact h
theorem readyU {o : Oper} {a : Act} {w w' : World} {K : Act → World → Prop} (hw : Region.wanted o (yielded ops a.tmps) = true) (hd : o.dst = none) (hr : (execOp a.eval o).run P w = .ok .skip w') (h : K (a.put none undef) w') : if Region.wanted o (yielded ops a.tmps) = true then Oper.wp P o a w K Q else K (a.put o.dst undef) w := by
 rw [← hd] at h
 rw [if_pos hw]
 unfold Oper.wp
 rw [hr]
 exact h
theorem exec_append {a : Act} {o : Oper} {w w' : World} {s x : Operand} {t : TypeId} {v vs vx : Value} (ho : o.op = .call { callee := .builtin .append, args := #[s, x], argTypes := #[t, t] }) (hs : a.eval s = vs) (hx : a.eval x = vx) (hrun : (Builtin.append_ #[t, t] o.type #[vs, vx]).run P w = .ok v w') : (execOp a.eval o).run P w = .ok (.value v) w' := by
 simp [execOp, ho, resolve, invoke, builtin, hs, hx, hrun, Result.andThen]
end
end Go.Proofs.YtbkchepelhkjlaaGreat

/-
 A state in its box: where it is read; numbers that are small are well formed.
-/
namespace Go.Proofs.YtbkchepelhkjlaaGreat
open Go.RowKit
set_option linter.unusedVariables false
/-- a box bears a state -/
structure StB (w : World) (b : Nat) (y : Sls) (s : St) : Prop where
 box : Blk w b (svc y s) 29
 row : SRow w y s
 cap : y.ql ≤ y.qc
theorem StB.below {w w' : World} {b : Nat} {y : Sls} {s : St} (h : StB w b y s) (hb : Below w.heap.size w w') : StB w' b y s := ⟨h.box.below hb, h.row.below hb, h.cap⟩
theorem StB.new {B : Nat} {w : World} {y : Sls} {s : St} {hs : List AV} (h : SHas B w y s hs) : StB (w.alloc (.cells (svc y s) 29)) w.heap.size y s := ⟨blk_new _ _ _, h.ans.row.below (below_al (Below.refl _ w) _), h.cap.q⟩
theorem StB.read {w : World} {b : Nat} {y : Sls} {s : St} (h : StB w b y s) : w.cell? ⟨b, 0, none⟩ = some (.slice y.qa y.ql y.qc) ∧ w.cell? ⟨b, 1, none⟩ = some (.int .i64 s.clock) ∧ w.cell? ⟨b, 2, none⟩ = some (.int .i64 s.epoch) ∧ w.cell? ⟨b, 3, none⟩ = some (.int .i64 s.next) ∧ w.cell? ⟨b, 4, none⟩ = some (.int .i64 s.serial) ∧ w.cell? ⟨b, 5, none⟩ = some (.slice y.aa y.al y.ac) ∧ w.cell? ⟨b, 6, none⟩ = some (.slice y.ma y.ml y.mc) ∧ w.cell? ⟨b, 7, none⟩ = some (.slice y.ca y.cl y.cc) :=
 ⟨h.box.at 0, h.box.at 1, h.box.at 2, h.box.at 3, h.box.at 4, h.box.at 5, h.box.at 6, h.box.at 7⟩
theorem wf_small {x : Int} (h0 : -1000000000000 ≤ x) (h1 : x ≤ 1000000000000) : (Lit.int .i64 x).wf = true := by
 simp only [Lit.wf, Bool.and_eq_true, decide_eq_true_eq]
 exact ⟨Int.le_trans (by decide) h0, Int.le_trans h1 (by decide)⟩
end Go.Proofs.YtbkchepelhkjlaaGreat

/-
 Numbers of applications and of containers' applications are those of an int.
-/
namespace Go.Proofs.YtbkchepelhkjlaaGreat
open Go.RowKit Go.Maps
set_option linter.unusedVariables false
/-- numbers that are numbers -/
def WfSt (s : St) : Prop := (∀ a ∈ s.apps, (Lit.int .i64 a.id).wf = true) ∧ (∀ c ∈ s.cs, (Lit.int .i64 c.app).wf = true)
theorem heads_wf {w : World} {hs : List AV} {l : List Appl} (hh : Heads w hs l) (h : ∀ a ∈ l, (Lit.int .i64 a.id).wf = true) : ∀ v ∈ hs, (Lit.int .i64 v.id).wf = true := fun v hv => by
 obtain ⟨i, hi, rfl⟩ := List.mem_iff_getElem.1 hv
 have hi' : i < l.length := by rw [← hh.1]; exact hi
 rw [(hh.2 i hi hi').1]
 exact h _ (List.getElem_mem _)
end Go.Proofs.YtbkchepelhkjlaaGreat

/-
 What stands while a state is drawn: the cursor, the state's box, the box of the answer, the names; how small what is drawn is.
-/
namespace Go.Proofs.YtbkchepelhkjlaaGreat
open Go.RowKit
set_option linter.unusedVariables false
theorem xno {b : Bool} {p : Prop} (h : b = true) : b = false → p := fun e => by rw [h] at e; cases e
theorem bs_bk (s : ByteArray) : bs s.data.toList = s := by simp [bs]
theorem blk_rw {w : World} {b : Nat} {old : Array Value} {t : TypeId} (h : Blk w b old t) (arr : Array Value) : Blk (w.setRow b arr) b arr t := setRow_heap w b old arr t (0, 0) h
theorem mks_rw {w : World} {b : Nat} {old : Array Value} {t : TypeId} (h : Blk w b old t) (arr : Array Value) (hs : arr.size = old.size) : Mks (fun k => k = b) w (w.setRow b arr) := by
 refine ⟨rfl, rfl, rfl, by rw [setRow_size]; exact Nat.le_refl _, fun k _ hk => setRow_other w b k arr hk, fun t' g N hc => ?_⟩
 by_cases e : g = b
 ·subst e
  obtain ⟨c, h1, h2⟩ := hc
  rw [h] at h1
  cases h1
  exact ⟨arr, blk_rw h arr, by omega⟩
 ·exact hc.of_block (setRow_other w b g arr e)
abbrev zero8 : Array Value := #[.slice none 0 0, .int .i64 0, .int .i64 0, .int .i64 0, .int .i64 0, .slice none 0 0, .slice none 0 0, .slice none 0 0]
abbrev names3 : Array Value := #[.string ⟨#[109, 49]⟩, .string ⟨#[109, 50]⟩, .string ⟨#[109, 51]⟩]
theorem names_at (k : Nat) (hk : k < 3) : ∃ nm : List UInt8, nm.length = 2 ∧ names3[k]? = some (.string (bs nm)) := by
 match k, hk with
 | 0, _ => exact ⟨[109, 49], rfl, rfl⟩
 | 1, _ => exact ⟨[109, 50], rfl, rfl⟩
 | 2, _ => exact ⟨[109, 51], rfl, rfl⟩
structure DSt (w : World) (B g : Nat) (ao : Option Addr) (len cap : Nat) (b q : Nat) (arr : Array Value) (wr : World) : Prop where
 c : CSt w B g ao len cap wr
 gl : g < w.heap.size
 x : Blk wr b arr 29
 bl : w.heap.size < b
 r : Blk wr w.heap.size zero8 29
 n : Blk wr q names3 9
 ql : w.heap.size < q
section
variable {w wr wy : World} {B g : Nat} {ao : Option Addr} {len cap : Nat} {b q : Nat} {arr : Array Value}
theorem DSt.below (h : DSt w B g ao len cap b q arr wr) (hb : Below wr.heap.size wr wy) : DSt w B g ao len cap b q arr wy := ⟨h.c.below hb, h.gl, h.x.below hb, h.bl, h.r.below hb, h.n.below hb, h.ql⟩
theorem DSt.mks {S : Nat → Prop} (h : DSt w B g ao len cap b q arr wr) (hm : Mks S wr wy) (hS : ∀ k, S k → w.heap.size ≤ k ∧ ∃ t N, Cel wr t k N ∧ t ≠ 29 ∧ t ≠ 9) : DSt w B g ao len cap b q arr wy := by
 have hx : ∀ {k : Nat} {a : Array Value}, Blk wr k a 29 → ¬ S k := fun hk e => let ⟨_, t, N, h1, h2, _⟩ := hS _ e; h2 (h1.type ⟨_, hk, rfl⟩)
 have hy : ∀ {k : Nat} {a : Array Value}, Blk wr k a 9 → ¬ S k := fun hk e => let ⟨_, t, N, h1, _, h2⟩ := hS _ e; h2 (h1.type ⟨_, hk, rfl⟩)
 exact ⟨h.c.mks hm (fun k e => ⟨(hS k e).1, Nat.lt_of_lt_of_le h.gl (hS k e).1⟩), h.gl, hm.blk h.x (hx h.x), h.bl, hm.blk h.r (hx h.r), hm.blk h.n (hy h.n), h.ql⟩
theorem DSt.cur (h : DSt w B g ao len cap b q arr wr) (hc : CSt w B g ao len cap wy) (hg : wr.grownBy wy (some g)) : DSt w B g ao len cap b q arr wy := by
 have hm := cur_mks h.c.1 hc.1 hg
 have h1 := h.gl; have h2 := h.bl; have h3 := h.ql
 exact ⟨hc, h.gl, hm.blk h.x (by omega), h.bl, hm.blk h.r (by omega), hm.blk h.n (by omega), h.ql⟩
theorem DSt.off (h : DSt w B g ao len cap b q arr wr) (hc : CSt w B g ao len cap wy) (hg : wr.grownBy wy (some g)) {x : Sls} {s : St} {hs : List AV} (H : SHas w.heap.size wr x s hs) : SHas w.heap.size wy x s hs :=
 H.off (cur_mks h.c.1 hc.1 hg) (off_low h.gl)
theorem DSt.set (h : DSt w B g ao len cap b q arr wr) (j : Nat) (v : Value) : DSt w B g ao len cap b q (arr.setIfInBounds j v) (wr.setCell ⟨b, j, none⟩ v) := by
 have hm : Mks (fun k => k = b) wr (wr.setCell ⟨b, j, none⟩ v) := Mks.one _ wr b j v rfl
 have h1 := h.gl; have h2 := h.bl
 exact ⟨h.c.mks hm (fun k e => by subst e; omega), h.gl, h.x.set j v, h.bl, hm.blk h.r (by omega), hm.blk h.n (fun e => by
  have hx := h.x
  have hn := h.n
  unfold Blk at hx hn
  rw [e, hx] at hn
  cases hn), h.ql⟩
theorem DSt.setH (h : DSt w B g ao len cap b q arr wr) (j : Nat) (v : Value) {x : Sls} {s : St} {hs : List AV} (H : SHas w.heap.size wr x s hs) : SHas w.heap.size (wr.setCell ⟨b, j, none⟩ v) x s hs :=
 H.off (Mks.one (fun k => k = b) wr b j v rfl) (off_blk h.x (by decide) (by decide) (by decide) (by decide) (by decide))
end
/-- the same, and the state's lists lie below E -/
structure DS (w : World) (B g : Nat) (ao : Option Addr) (len cap : Nat) (b q : Nat) (arr : Array Value) (E : Nat) (y : Sls) (s : St) (hs : List AV) (wx : World) : Prop where
 d : DSt w B g ao len cap b q arr wx
 a : SAns w.heap.size E wx y s hs
 e : E ≤ wx.heap.size
 l : w.heap.size ≤ E
section
variable {w wx wy : World} {B g : Nat} {ao : Option Addr} {len cap : Nat} {b q : Nat} {arr : Array Value} {E : Nat} {y : Sls} {s : St} {hs : List AV}
theorem DS.new (h : DSt w B g ao len cap b q arr wx) (H : SHas w.heap.size wx y s hs) : DS w B g ao len cap b q arr wx.heap.size y s hs wx := ⟨h, H.ans, Nat.le_refl _, h.c.2.2.1.size⟩
theorem DS.below (h : DS w B g ao len cap b q arr E y s hs wx) (hb : Below wx.heap.size wx wy) : DS w B g ao len cap b q arr E y s hs wy := ⟨h.d.below hb, h.a.below hb, Nat.le_trans h.e hb.size, h.l⟩
theorem DS.drew (h : DS w B g ao len cap b q arr E y s hs wx) : DS w B g ao len cap b q arr E y s hs wx.drew := h.below (Below.refl _ _).drew
theorem DS.al (h : DS w B g ao len cap b q arr E y s hs wx) (o : Obj) : DS w B g ao len cap b q arr E y s hs (wx.alloc o) := h.below (below_al (Below.refl _ _) o)
theorem DS.cur (h : DS w B g ao len cap b q arr E y s hs wx) (hc : Cur wy g ao len cap) (hg : wx.grownBy wy (some g)) : DS w B g ao len cap b q arr E y s hs wy :=
 ⟨h.d.cur (h.d.c.step hc hg) hg, h.a.mks (cur_mks h.d.c.1 hc hg) (fun k e => .inl (by have := h.d.gl; omega)), Nat.le_trans h.e hg.size, h.l⟩
theorem DS.out {S : Nat → Prop} (h : DS w B g ao len cap b q arr E y s hs wx) (hm : Mks S wx wy) (hS : ∀ k, S k → E ≤ k ∧ ∃ t N, Cel wx t k N ∧ t ≠ 29 ∧ t ≠ 9) : DS w B g ao len cap b q arr E y s hs wy :=
 ⟨h.d.mks hm (fun k e => ⟨Nat.le_trans h.l (hS k e).1, (hS k e).2⟩), h.a.mks hm (fun k e => .inr (hS k e).1), Nat.le_trans h.e hm.size, h.l⟩
end
/-- the same, and an application's variable with its asks, which lie at E or behind it -/
structure AS (w : World) (B g : Nat) (ao : Option Addr) (len cap : Nat) (b q : Nat) (arr : Array Value) (E : Nat) (y : Sls) (s : St) (hs : List AV) (ba : Nat) (aa : Array Value) (ko : Option Addr) (j kc : Nat) (ak : List Ask) (wx : World) : Prop where
 s : DS w B g ao len cap b q arr E y s hs wx
 x : Blk wx ba aa 41
 l : E ≤ ba
 r : AskRow wx ko j ak
 o : Own1 E wx.heap.size wx 106 5 ko kc
 c : j ≤ kc
section
variable {w wx wy : World} {B g : Nat} {ao : Option Addr} {len cap : Nat} {b q : Nat} {arr : Array Value} {E : Nat} {y : Sls} {s : St} {hs : List AV} {ba : Nat} {aa : Array Value} {ko : Option Addr} {j kc : Nat} {ak : List Ask}
theorem AS.below (h : AS w B g ao len cap b q arr E y s hs ba aa ko j kc ak wx) (hb : Below wx.heap.size wx wy) : AS w B g ao len cap b q arr E y s hs ba aa ko j kc ak wy := ⟨h.s.below hb, h.x.below hb, h.l, h.r.below hb, h.o.grow hb (Nat.le_refl _), h.c⟩
theorem AS.al (h : AS w B g ao len cap b q arr E y s hs ba aa ko j kc ak wx) (o : Obj) : AS w B g ao len cap b q arr E y s hs ba aa ko j kc ak (wx.alloc o) := h.below (below_al (Below.refl _ _) o)
theorem AS.drew (h : AS w B g ao len cap b q arr E y s hs ba aa ko j kc ak wx) : AS w B g ao len cap b q arr E y s hs ba aa ko j kc ak wx.drew := h.below (Below.refl _ _).drew
theorem AS.cur (h : AS w B g ao len cap b q arr E y s hs ba aa ko j kc ak wx) (hc : Cur wy g ao len cap) (hg : wx.grownBy wy (some g)) : AS w B g ao len cap b q arr E y s hs ba aa ko j kc ak wy := by
 have hm := cur_mks h.s.d.c.1 hc hg
 have h1 := h.s.d.gl; have h2 := h.s.l; have h3 := h.l
 have ho : Off E wx 106 (fun k => k = g) := fun k e => .inl (by omega)
 exact ⟨h.s.cur hc hg, hm.blk h.x (by omega), h.l, h.r.mks hm (own_off (h.o.le h.c) hm ho).1, (own_off h.o hm ho).2, h.c⟩
theorem AS.set (h : AS w B g ao len cap b q arr E y s hs ba aa ko j kc ak wx) (i : Nat) (v : Value) : AS w B g ao len cap b q arr E y s hs ba (aa.setIfInBounds i v) ko j kc ak (wx.setCell ⟨ba, i, none⟩ v) := by
 have hm : Mks (fun k => k = ba) wx (wx.setCell ⟨ba, i, none⟩ v) := Mks.one _ wx ba i v rfl
 have ho : Off E wx 106 (fun k => k = ba) := fun k e => .inr ⟨41, aa.size, by subst e; exact ⟨_, h.x, rfl⟩, by decide⟩
 exact ⟨h.s.out hm (fun k e => by subst e; exact ⟨h.l, _, _, ⟨_, h.x, rfl⟩, by decide, by decide⟩), h.x.set i v, h.l, h.r.mks hm (own_off (h.o.le h.c) hm ho).1, (own_off h.o hm ho).2, h.c⟩
theorem AS.app {g4 cp : Nat} (h : AS w B g ao len cap b q arr E y s hs ba aa ko j kc ak wx) (m : Ask) (ha : AppR E wx 106 5 ko (j + 1) (acells ak ++ acell m) g4 cp wy) : AS w B g ao len cap b q arr E y s hs ba aa (some ⟨g4, 0, none⟩) (j + 1) cp (ak ++ [m]) wy :=
 ⟨h.s.out ha.mks (fun k ⟨N, hc, hB⟩ => ⟨hB, _, N, hc, by decide, by decide⟩), ha.mks.blk h.x (fun ⟨N, hc, _⟩ => absurd (hc.type ⟨_, h.x, rfl⟩) (by decide)), h.l, ask_add h.r.1 m ha, ha.own, ha.cap⟩
end
theorem PickT.below {w w' : World} {q L : Nat} (h : PickT w q L) (hb : Below w.heap.size w w') : PickT w' q L := ⟨Nat.lt_of_lt_of_le h.1 hb.size, fun j hj => let ⟨s, h1, h2⟩ := h.2 j hj; ⟨s, cellBel h1 hb, h2⟩⟩
theorem PickT.cur {w w' : World} {q L g : Nat} (h : PickT w q L) (hg : w.grownBy w' (some g)) (hn : g ≠ q) : PickT w' q L := ⟨Nat.lt_of_lt_of_le h.1 hg.size, fun j hj => by
 obtain ⟨s, h1, h2⟩ := h.2 j hj
 refine ⟨s, ?_, h2⟩
 rw [← h1]
 simp only [World.cell?, hg.block q h.1 (fun e => hn (Option.some.inj e).symm)]⟩
/-- how small what is drawn is -/
structure SmS (s : St) (a m c : Nat) : Prop where
 q : s.qs.length ≤ 1000 ∧ ∀ q ∈ s.qs, q.name.length ≤ 1000 ∧ q.parent.length ≤ 1000
 al : s.apps.length ≤ a
 ml : s.ms.length ≤ m
 cl : s.cs.length ≤ c
 ap : ∀ x ∈ s.apps, x.queue.length ≤ 12 ∧ x.asks.length ≤ 3 ∧ (∀ k ∈ x.asks, k.node.length ≤ 12) ∧ 0 ≤ x.id ∧ x.id ≤ 100000
 mn : ∀ x ∈ s.ms, x.name.length ≤ 12
 cn : ∀ x ∈ s.cs, x.node.length ≤ 12 ∧ 0 ≤ x.app ∧ x.app ≤ 100000
 nx : 0 ≤ s.next ∧ s.next ≤ 1001 + a
 se : 0 ≤ s.serial ∧ s.serial ≤ 1 + c
theorem SmS.fit {s : St} {a m c : Nat} (h : SmS s a m c) (ha : a ≤ 1000) (hm : m ≤ 1000) (hc : c ≤ 1000) : FitSt s := by
 have h1 := h.q.1; have h2 := h.al; have h3 := h.ml; have h4 := h.cl
 refine ⟨⟨by omega, fun q hq => ?_⟩, ⟨by omega, fun x hx => ?_⟩, ⟨by omega, fun x hx => ?_⟩, ⟨by omega, fun x hx => ?_⟩⟩
 ·have := h.q.2 q hq; omega
 ·obtain ⟨k1, k2, k3, _⟩ := h.ap x hx
  exact ⟨by omega, by omega, fun y hy => by have := k3 y hy; omega⟩
 ·have := h.mn x hx; omega
 ·have := h.cn x hx; omega
theorem SmS.wf {s : St} {a m c : Nat} (h : SmS s a m c) : WfSt s :=
 ⟨fun x hx => by have := h.ap x hx; exact wf_small (by omega) (by omega), fun x hx => by have := h.cn x hx; exact wf_small (by omega) (by omega)⟩
theorem SmS.addM {s : St} {a m c : Nat} (h : SmS s a m c) (x : Mac) (hx : x.name.length ≤ 12) : SmS ⟨s.qs, s.clock, s.epoch, s.next, s.serial, s.apps, s.ms ++ [x], s.cs⟩ a (m + 1) c :=
 ⟨h.q, h.al, by have := h.ml; simp; omega, h.cl, h.ap, fun y hy => by rcases List.mem_append.1 hy with hy | hy; exact h.mn y hy; simp at hy; subst hy; exact hx, h.cn, h.nx, h.se⟩
theorem SmS.addA {s : St} {a m c : Nat} (h : SmS s a m c) (x : Appl) (nx : Int) (ha : a ≤ 1000) (h1 : x.queue.length ≤ 12) (h2 : x.asks.length ≤ 3) (h3 : ∀ k ∈ x.asks, k.node.length ≤ 12) (h4 : x.id = s.next) (h5 : nx = s.next + 1) : SmS ⟨s.qs, s.clock, s.epoch, nx, s.serial, s.apps ++ [x], s.ms, s.cs⟩ (a + 1) m c := by
 have hn := h.nx
 refine ⟨h.q, by have := h.al; simp; omega, h.ml, h.cl, fun y hy => ?_, h.mn, h.cn, ⟨by show 0 ≤ nx; omega, by show nx ≤ _; omega⟩, h.se⟩
 rcases List.mem_append.1 hy with hy | hy
 ·exact h.ap y hy
 ·simp at hy
  subst hy
  exact ⟨h1, h2, h3, by omega, by omega⟩
theorem SmS.next {s : St} {a m c : Nat} (h : SmS s a m c) (cs : List Con) (hl : cs.length ≤ c + 1) (hx : ∀ x ∈ cs, x.node.length ≤ 12 ∧ 0 ≤ x.app ∧ x.app ≤ 100000) : SmS ⟨s.qs, s.clock, s.epoch, s.next, s.serial + 1, s.apps, s.ms, cs⟩ a m (c + 1) :=
 ⟨h.q, h.al, h.ml, hl, h.ap, h.mn, hx, h.nx, by have := h.se; show 0 ≤ s.serial + 1 ∧ s.serial + 1 ≤ _; omega⟩
theorem SmS.mono {s : St} {a m c a' m' c' : Nat} (h : SmS s a m c) (ha : a ≤ a') (hm : m ≤ m') (hc : c ≤ c') : SmS s a' m' c' := by
 have h1 := h.al; have h2 := h.ml; have h3 := h.cl; have h4 := h.nx; have h5 := h.se
 exact ⟨h.q, by omega, by omega, by omega, h.ap, h.mn, h.cn, by omega, by omega⟩
end Go.Proofs.YtbkchepelhkjlaaGreat

/-
 Queues that are drawn: l03Right, l03Queues; walks over the dump.
-/
namespace Go.Proofs.YtbkchepelhkjlaaGreat
open Go.RowKit
set_option linter.unusedVariables false
theorem CSt.rebase {w0 w : World} {B g : Nat} {ao : Option Addr} {len cap : Nat} (h : CSt w0 B g ao len cap w) : CSt w B g ao len cap w := ⟨h.1, h.2.1, grownBy_refl w _, h.2.2.2⟩
/-- three queues, of which two have drawn points -/
def three (a b c d : Int) : List Q := [⟨[114, 111, 111, 116], [], 10000, 10000⟩, ⟨[97], [114, 111, 111, 116], a, b⟩, ⟨[98], [114, 111, 111, 116], c, d⟩]
theorem three_brief (a b c d : Int) : Brief (three a b c d) := fun q hq => by
 simp [three] at hq
 rcases hq with rfl | rfl | rfl <;> simp

set_option maxRecDepth 100000 in
set_option maxHeartbeats 4000000 in
theorem right_st {w0 : World} {B g : Nat} {ao : Option Addr} {len cap : Nat} (w : World) (h : CSt w0 B g ao len cap w) :
  Calls Tryz.prog 111 #[.pointer (some ⟨g, 0, none⟩)] w fun e w' => ∃ v ls, e = .returned v ∧ Hid (QDr w.heap.size w' v ls) ∧ 3 ≤ ls.length ∧ ls.length ≤ 5 ∧ Hid (Brief ls) ∧ Hid (CSt w0 B g ao len cap w') := by
 obtain ⟨i0, hi, hz0, hz1, hz2⟩ := info_parts Tryz.infoQD
 have HS := hide h
 have hgl := h.1.lt
 have hw0 := h.2.2.1.size
 clear h
 have hq1 := hide (ints_alloc w 3 [5000, 3000, 0, 6000] (by decide))
 go_enter Tryz.func111, Tryz.ntmps111
 go_wp2_with fail
 refine (pick_st w.heap.size 4 4 _ ((unhide HS).alloc _).rebase (unhide hq1) (by omega) (by decide) (by decide)).mono ?_
 rintro e w1 ⟨x1, rfl, _, _, hs1⟩
 have HS1 := hide (((unhide HS).alloc _).step hs1.1 hs1.2.2.1)
 have hz1' : w.heap.size + 1 ≤ w1.heap.size := by have := hs1.2.2.1.size; rwa [World.size_alloc] at this
 have hq2 := hide (ints_alloc w1 3 [8000, 10000, 6000] (by decide))
 clear hs1 hq1 HS
 go_wp2_with fail
 refine (pick_st w1.heap.size 3 3 _ ((unhide HS1).alloc _).rebase (unhide hq2) (by omega) (by decide) (by decide)).mono ?_
 rintro e w2 ⟨x2, rfl, _, _, hs2⟩
 have HS2 := hide (((unhide HS1).alloc _).step hs2.1 hs2.2.2.1)
 have hz2' : w1.heap.size + 1 ≤ w2.heap.size := by have := hs2.2.2.1.size; rwa [World.size_alloc] at this
 have hq3 := hide (ints_alloc w2 3 [4000, 2000, 0] (by decide))
 clear hs2 hq2 HS1
 go_wp2_with fail
 refine (pick_st w2.heap.size 3 3 _ ((unhide HS2).alloc _).rebase (unhide hq3) (by omega) (by decide) (by decide)).mono ?_
 rintro e w3 ⟨x3, rfl, _, _, hs3⟩
 have HS3 := hide (((unhide HS2).alloc _).step hs3.1 hs3.2.2.1)
 have hz3' : w2.heap.size + 1 ≤ w3.heap.size := by have := hs3.2.2.1.size; rwa [World.size_alloc] at this
 have hq4 := hide (ints_alloc w3 3 [10000, 5000] (by decide))
 clear hs3 hq3 HS2
 go_wp2_with fail
 refine (pick_st w3.heap.size 2 2 _ ((unhide HS3).alloc _).rebase (unhide hq4) (by omega) (by decide) (by decide)).mono ?_
 rintro e w4 ⟨x4, rfl, _, _, hs4⟩
 have HS4 := hide ((((unhide HS3).alloc _).step hs4.1 hs4.2.2.1).alloc (.cells (dcells (three x1 x2 x3 x4)).toArray 59))
 have hz4' : w3.heap.size + 1 ≤ w4.heap.size := by have := hs4.2.2.1.size; rwa [World.size_alloc] at this
 have HQ4 := hide (qdr_lit w4 (three x1 x2 x3 x4) 3 rfl (by decide))
 have HBR := hide (three_brief x1 x2 x3 x4)
 have HLN := hide (show (three x1 x2 x3 x4).length = 3 from rfl)
 clear hs4 hq4 HS3
 go_wp2_with fail
 refine (once_st 2 _ (unhide HS4).rebase (by decide) (by decide)).mono ?_
 rintro e w5 ⟨x, rfl, hs5⟩
 have HS5 := hide ((unhide HS4).step hs5.1 hs5.2.2.1)
 have HQ5 := hide ((unhide HQ4).kept hs5.2.2.1 (fun k e => by cases e; omega))
 have hz5' : w4.heap.size + 1 ≤ w5.heap.size := by have := hs5.2.2.1.size; rwa [World.size_alloc] at this
 clear hs5 HS4 HQ4
 cases x with
 | false =>
  go_wp2
  go_ret
  exact ⟨_, three x1 x2 x3 x4, rfl, hide ⟨(unhide HQ5).1, by rcases (unhide HQ5).2 with h | ⟨a, b, c, h1, h2, h3⟩; exact .inl h; exact .inr ⟨a, b, c, h1, by omega, h3⟩⟩, by rw [unhide HLN]; omega, by rw [unhide HLN]; omega, HBR, HS5⟩
 | true =>
  have hq6 := hide (ints_alloc w5 3 [5000, 1000] (by decide))
  go_wp2_with fail
  refine (pick_st w5.heap.size 2 2 _ ((unhide HS5).alloc _).rebase (unhide hq6) (by omega) (by decide) (by decide)).mono ?_
  rintro e w6 ⟨x6, rfl, _, _, hs6⟩
  have HS6 := hide (((unhide HS5).alloc _).step hs6.1 hs6.2.2.1)
  have HQ6 := hide (((unhide HQ5).below (below_al (Below.refl _ _) _)).kept hs6.2.2.1 (fun k e => by cases e; omega))
  have hz6' : w5.heap.size + 1 ≤ w6.heap.size := by have := hs6.2.2.1.size; rwa [World.size_alloc] at this
  have hown : w6.ownsRow w4.heap.size 59 4 _ 3 (dcells (three x1 x2 x3 x4)) := unhide HQ6
  have hs2 : w4.heap.size ≤ w6.heap.size := by omega
  clear hs6 hq6 HS5 HQ5
  go_wp2_with (at_builtin; refine wpList_append_own _ rfl _ _ 24 rfl w4.heap.size 59 i0 (.agg #[.string ByteArray.empty, .string ByteArray.empty, .int .i64 0, .int .i64 0]) 4 48 Tryz.underlying24 hi hz0 hz1 hz2 rfl (by decide) _ _ _ rfl (hown.alloc _) ⟨w6.heap.size, 0, none⟩ 2 2 (dcells [⟨[98, 49], [98], 5000, 10000⟩, ⟨[98, 50], [98], x6, 9000⟩]) rfl rfl ?c1 ?c2 ?c3 ?c4 ?c5 ?_)
  case c1 =>
   intro j x hj
   have hj8 : j < 8 := by have := (List.getElem?_eq_some_iff.1 hj).1; simpa [dcells] using this
   match j, hj8, hj with
   | 0, _, hj => simp [dcells] at hj; subst hj; simp [Addr.add]; rfl
   | 1, _, hj => simp [dcells] at hj; subst hj; simp [Addr.add]; rfl
   | 2, _, hj => simp [dcells] at hj; subst hj; simp [Addr.add]
   | 3, _, hj => simp [dcells] at hj; subst hj; simp [Addr.add]
   | 4, _, hj => simp [dcells] at hj; subst hj; simp [Addr.add]; rfl
   | 5, _, hj => simp [dcells] at hj; subst hj; simp [Addr.add]; rfl
   | 6, _, hj => simp [dcells] at hj; subst hj; simp [Addr.add]
   | 7, _, hj => simp [dcells] at hj; subst hj; simp [Addr.add]
  case c2 => intro x hx; simp [dcells] at hx; rcases hx with rfl | rfl | rfl | rfl | rfl | rfl | rfl | rfl <;> rfl
  case c3 => unfold maxLen; omega
  case c4 => omega
  case c5 => simp at hs2 ⊢; omega
  intro v' w7 hown' hgrow _
  have HQ7 := hide (show QDr w4.heap.size w7 v' (three x1 x2 x3 x4 ++ [⟨[98, 49], [98], 5000, 10000⟩, ⟨[98, 50], [98], x6, 9000⟩]) by unfold QDr; rw [dcells_app]; exact hown')
  have HS7 := hide (((unhide HS6).alloc _).gro hgrow (fun k hk => by
   rcases (unhide HQ6).2 with ⟨e, _⟩ | ⟨q, _, _, e, hq, _⟩
   ·rw [e] at hk; simp [Value.ownBlock] at hk
   ·rw [e] at hk; simp [Value.ownBlock] at hk; omega))
  clear hown' hgrow hown
  go_wp2
  go_ret
  refine ⟨_, three x1 x2 x3 x4 ++ [⟨[98, 49], [98], 5000, 10000⟩, ⟨[98, 50], [98], x6, 9000⟩], rfl, hide ⟨(unhide HQ7).1, by rcases (unhide HQ7).2 with h | ⟨a, b, c, h1, h2, h3⟩; exact .inl h; exact .inr ⟨a, b, c, h1, by omega, h3⟩⟩, by simp [unhide HLN], by simp [unhide HLN], hide ?_, HS7⟩
  intro q hq
  rcases List.mem_append.1 hq with hq | hq
  ·exact unhide HBR q hq
  ·simp at hq
   rcases hq with rfl | rfl <;> simp
end Go.Proofs.YtbkchepelhkjlaaGreat

/-
 What the model's l01In answers: whether a number lies between two.
-/
namespace Go.Proofs.YtbkchepelhkjlaaGreat
open Go.RowKit
set_option maxHeartbeats 400000 in
theorem l01In_any (x a b : Int) (w : World) :
  Calls Tryz.prog 80 #[.int .i64 x, .int .i64 a, .int .i64 b] w fun e w' => e = .returned (.bool (inB x a b)) ∧ w = w' := by
 by_cases h1 : a ≤ x
 ·by_cases h2 : x ≤ b
  ·go_enter Tryz.func80, Tryz.ntmps80
   go_wp2
   go_ret
   exact ⟨ret_bool (inB_true h1 h2).symm, rfl⟩
  ·go_enter Tryz.func80, Tryz.ntmps80
   go_wp2
   go_ret
   exact ⟨ret_bool (inB_false (by omega)).symm, rfl⟩
 ·go_enter Tryz.func80, Tryz.ntmps80
  go_wp2
  go_ret
  exact ⟨ret_bool (inB_false (by omega)).symm, rfl⟩
end Go.Proofs.YtbkchepelhkjlaaGreat

/-
 What the model's ResOk answers; a walk over the dump.
-/
namespace Go.Proofs.YtbkchepelhkjlaaGreat
open Go.RowKit
set_option linter.unusedVariables false
set_option maxRecDepth 100000 in
set_option maxHeartbeats 400000 in
theorem specResOk_any (a b : Int) (w : World) :
  Calls Tryz.prog 121 #[rv a b] w fun e w' => e = .returned (.bool (resOk a b)) ∧ w' = w.alloc (.cells #[.int .i64 a, .int .i64 b] 33) := by
 cases h1 : inB a 0 1000000000
 ·go_enter Tryz.func121, Tryz.ntmps121
  go_wp2_with (go_at_call 80; refine (l01In_any _ _ _ _).mono ?_; rintro e w' ⟨rfl, rfl⟩)
  go_ret
  exact ⟨ret_bool (by simp [resOk, h1]), rfl⟩
 ·go_enter Tryz.func121, Tryz.ntmps121
  go_wp2_with (go_at_call 80; refine (l01In_any _ _ _ _).mono ?_; rintro e w' ⟨rfl, rfl⟩)
  go_ret
  exact ⟨ret_bool (by simp [resOk, h1]), rfl⟩
end Go.Proofs.YtbkchepelhkjlaaGreat

/-
 Two amounts together, or one less the other: in plain words.
-/
namespace Go.Proofs.YtbkchepelhkjlaaGreat
open Go.RowKit
/-- a and b together, or a less b -/
def bothOk (s a b c d : Int) : Bool := resOk a b && resOk c d && resOk (a + s * c) (b + s * d)
def bothV (s a b c d : Int) : Value := if bothOk s a b c d then rv (a + s * c) (b + s * d) else rv 0 0
theorem both_no {s a b c d : Int} (h : bothOk s a b c d = false) : bothV s a b c d = rv 0 0 := by simp [bothV, h]
theorem both_yes {s a b c d : Int} (h : bothOk s a b c d = true) : bothV s a b c d = rv (a + s * c) (b + s * d) := by simp [bothV, h]
end Go.Proofs.YtbkchepelhkjlaaGreat

/-
 Two amounts together, or one less the other: what the model's l02Both answers; a walk over the dump.
-/
namespace Go.Proofs.YtbkchepelhkjlaaGreat
open Go.RowKit
set_option linter.unusedVariables false
set_option maxRecDepth 100000 in
set_option maxHeartbeats 1000000 in
theorem l02Both_any (a b c d s : Int) (w : World) (hs : s = 1 ∨ s = -1) :
  Calls Tryz.prog 115 #[rv a b, rv c d, .int .i64 s] w fun e w' => e = .returned (.tuple #[bothV s a b c d, .bool (bothOk s a b c d)]) ∧ Below w.heap.size w w' := by
 cases h1 : resOk a b
 ·have hb : bothOk s a b c d = false := by simp [bothOk, h1]
  rw [both_no hb, hb]
  go_enter Tryz.func115, Tryz.ntmps115
  go_wp2_with (go_at_call 121; refine (specResOk_any _ _ _).mono ?_; rintro e w' ⟨rfl, rfl⟩)
  refine bodyPost_ret (v := .tuple #[rv 0 0, .bool false]) (by simp [results, Tryz.results115, go_sem]) rfl ⟨rfl, ?_⟩
  repeat (first | exact Below.refl _ _ | refine below_al ?_ _ | refine below_sc ?_ _ _ _ (by omega))
 ·cases h2 : resOk c d
  ·have hb : bothOk s a b c d = false := by simp [bothOk, h2]
   rw [both_no hb, hb]
   go_enter Tryz.func115, Tryz.ntmps115
   go_wp2_with (go_at_call 121; refine (specResOk_any _ _ _).mono ?_; rintro e w' ⟨rfl, rfl⟩)
   refine bodyPost_ret (v := .tuple #[rv 0 0, .bool false]) (by simp [results, Tryz.results115, go_sem]) rfl ⟨rfl, ?_⟩
   repeat (first | exact Below.refl _ _ | refine below_al ?_ _ | refine below_sc ?_ _ _ _ (by omega))
  ·obtain ⟨q1, q2, q3, q4⟩ := resOk_bd h1
   obtain ⟨q5, q6, q7, q8⟩ := resOk_bd h2
   have m1 : IntKind.i64.wrap (s * c) = s * c := by rw [IntKind.wrap_i64]; rcases hs with rfl | rfl <;> omega
   have m2 : IntKind.i64.wrap (s * d) = s * d := by rw [IntKind.wrap_i64]; rcases hs with rfl | rfl <;> omega
   have m3 : IntKind.i64.wrap (a + s * c) = a + s * c := by rw [IntKind.wrap_i64]; rcases hs with rfl | rfl <;> omega
   have m4 : IntKind.i64.wrap (b + s * d) = b + s * d := by rw [IntKind.wrap_i64]; rcases hs with rfl | rfl <;> omega
   cases h3 : resOk (a + s * c) (b + s * d)
   ·have hb : bothOk s a b c d = false := by simp [bothOk, h3]
    rw [both_no hb, hb]
    go_enter Tryz.func115, Tryz.ntmps115
    go_wp2_with (go_at_call 121; refine (specResOk_any _ _ _).mono ?_; rintro e w' ⟨rfl, rfl⟩)
    refine bodyPost_ret (v := .tuple #[rv 0 0, .bool false]) (by simp [results, Tryz.results115, go_sem]) rfl ⟨rfl, ?_⟩
    repeat (first | exact Below.refl _ _ | refine below_al ?_ _ | refine below_sc ?_ _ _ _ (by omega))
   ·have hb : bothOk s a b c d = true := by simp [bothOk, h1, h2, h3]
    rw [both_yes hb, hb]
    go_enter Tryz.func115, Tryz.ntmps115
    go_wp2_with (go_at_call 121; refine (specResOk_any _ _ _).mono ?_; rintro e w' ⟨rfl, rfl⟩)
    refine bodyPost_ret (v := .tuple #[rv (a + s * c) (b + s * d), .bool true]) (by simp [results, Tryz.results115, go_sem]) rfl ⟨rfl, ?_⟩
    repeat (first | exact Below.refl _ _ | refine below_al ?_ _ | refine below_sc ?_ _ _ _ (by omega))
end Go.Proofs.YtbkchepelhkjlaaGreat
