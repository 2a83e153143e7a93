/-
  Several texts of this claim in one: GrowS, DrE, QueD (pack.py put them together); each says in its own remark what is proved.
-/
import Derived.Test.YtbkchepelhkjlaaGreatPackE
import Derived.Test.YtbkchepelhkjlaaGreatCopySt
import Derived.Test.YtbkchepelhkjlaaGreatPackJ
/-
 Rows that stand while another grows.
-/
namespace Go.Proofs.YtbkchepelhkjlaaGreat
open Go.RowKit
set_option linter.unusedVariables false
theorem cellEq {w w' : World} {b p : Nat} {u : Value} (h : w.cell? ⟨b, p, none⟩ = some u) (hb : w'.heap[b]? = w.heap[b]?) : w'.cell? ⟨b, p, none⟩ = some u := (World.cell?_of_block (w := w) (a := ⟨b, p, none⟩) hb).trans h
theorem QRow.kept {w w' : World} {ao : Option Addr} {len : Nat} {l : List Q} (h : QRow w ao len l) (hs : ∀ k, inR ao len k → w'.heap[k]? = w.heap[k]?) : QRow w' ao len l := by
 obtain ⟨h1, h2⟩ := h
 refine ⟨h1, ?_⟩
 rcases h2 with h2 | ⟨b, off, h3, h4⟩
 ·exact .inl h2
 ·by_cases hz : len = 0
  ·exact .inl hz
  ·have hb := hs b ⟨hz, off, h3⟩
   exact .inr ⟨b, off, h3, fun i h => let ⟨a, c, d, e⟩ := h4 i h; ⟨cellEq a hb, cellEq c hb, cellEq d hb, cellEq e hb⟩⟩
theorem MacRow.kept {w w' : World} {ao : Option Addr} {len : Nat} {l : List Mac} (h : MacRow w ao len l) (hs : ∀ k, inR ao len k → w'.heap[k]? = w.heap[k]?) : MacRow w' ao len l := by
 obtain ⟨h1, h2⟩ := h
 refine ⟨h1, ?_⟩
 rcases h2 with h2 | ⟨b, off, h3, h4⟩
 ·exact .inl h2
 ·by_cases hz : len = 0
  ·exact .inl hz
  ·have hb := hs b ⟨hz, off, h3⟩
   exact .inr ⟨b, off, h3, fun i h => let ⟨a, c, d, e⟩ := h4 i h; ⟨cellEq a hb, cellEq c hb, cellEq d hb, cellEq e hb⟩⟩
theorem ConRow.kept {w w' : World} {ao : Option Addr} {len : Nat} {l : List Con} (h : ConRow w ao len l) (hs : ∀ k, inR ao len k → w'.heap[k]? = w.heap[k]?) : ConRow w' ao len l := by
 obtain ⟨h1, h2⟩ := h
 refine ⟨h1, ?_⟩
 rcases h2 with h2 | ⟨b, off, h3, h4⟩
 ·exact .inl h2
 ·by_cases hz : len = 0
  ·exact .inl hz
  ·have hb := hs b ⟨hz, off, h3⟩
   exact .inr ⟨b, off, h3, fun i h => let ⟨a, c, d, e, f⟩ := h4 i h; ⟨cellEq a hb, cellEq c hb, cellEq d hb, cellEq e hb, cellEq f hb⟩⟩
theorem AskRow.kept {w w' : World} {ao : Option Addr} {len : Nat} {l : List Ask} (h : AskRow w ao len l) (hs : ∀ k, inR ao len k → w'.heap[k]? = w.heap[k]?) : AskRow w' ao len l := by
 obtain ⟨h1, h2⟩ := h
 refine ⟨h1, ?_⟩
 rcases h2 with h2 | ⟨b, off, h3, h4⟩
 ·exact .inl h2
 ·by_cases hz : len = 0
  ·exact .inl hz
  ·have hb := hs b ⟨hz, off, h3⟩
   exact .inr ⟨b, off, h3, fun i h => let ⟨a, c, d, e, f⟩ := h4 i h; ⟨cellEq a hb, cellEq c hb, cellEq d hb, cellEq e hb, cellEq f hb⟩⟩
theorem AVRow.kept {w w' : World} {ao : Option Addr} {len : Nat} {l : List AV} (h : AVRow w ao len l) (hs : ∀ k, inR ao len k → w'.heap[k]? = w.heap[k]?) : AVRow w' ao len l := by
 obtain ⟨h1, h2⟩ := h
 refine ⟨h1, ?_⟩
 rcases h2 with h2 | ⟨b, off, h3, h4⟩
 ·exact .inl h2
 ·by_cases hz : len = 0
  ·exact .inl hz
  ·have hb := hs b ⟨hz, off, h3⟩
   exact .inr ⟨b, off, h3, fun i h => let ⟨a, c, d⟩ := h4 i h; ⟨cellEq a hb, cellEq c hb, cellEq d hb⟩⟩

/-- a row grows: those of other types stand -/
theorem own_grown {B : Nat} {w w' : World} {t t' : TypeId} {sz n : Nat} {ao : Option Addr} {r : Option Nat} (h : Own1 B w.heap.size w t sz ao n) (hg : w.grownBy w' r) (hr : ∀ k, r = some k → ∃ N, Cel w t' k N) (ht : t' ≠ t) : (∀ k, inR ao n k → w'.heap[k]? = w.heap[k]?) ∧ Own1 B w'.heap.size w' t sz ao n := by
 have key : ∀ k, inR ao n k → w'.heap[k]? = w.heap[k]? := fun k hk => by
  obtain ⟨_, h2, N, h3⟩ := h.lies k hk
  refine hg.block k h2 (fun e => ?_)
  obtain ⟨N', h4⟩ := hr k e.symm
  exact ht (h4.type h3)
 refine ⟨key, ?_⟩
 rcases h with e | ⟨g, M, e, h1, h2, h3, h4⟩
 ·exact .inl e
 ·by_cases hz : n = 0
  ·exact .inl hz
  ·exact .inr ⟨g, M, e, h1, Nat.lt_of_lt_of_le h2 hg.size, h3.of_block (key g ⟨hz, 0, e⟩), h4⟩
theorem QHas.grown {B n : Nat} {w w' : World} {t' : TypeId} {ao : Option Addr} {l : List Q} {r : Option Nat} (h : QHas B w ao n l) (hg : w.grownBy w' r) (hr : ∀ k, r = some k → ∃ N, Cel w t' k N) (ht : t' ≠ 59) : QHas B w' ao n l := ⟨h.1.kept (own_grown h.2 hg hr ht).1, (own_grown h.2 hg hr ht).2⟩
theorem MHas.grown {B n : Nat} {w w' : World} {t' : TypeId} {ao : Option Addr} {l : List Mac} {r : Option Nat} (h : MHas B w ao n l) (hg : w.grownBy w' r) (hr : ∀ k, r = some k → ∃ N, Cel w t' k N) (ht : t' ≠ 56) : MHas B w' ao n l := ⟨h.1.kept (own_grown h.2 hg hr ht).1, (own_grown h.2 hg hr ht).2⟩
theorem CHas.grown {B n : Nat} {w w' : World} {t' : TypeId} {ao : Option Addr} {l : List Con} {r : Option Nat} (h : CHas B w ao n l) (hg : w.grownBy w' r) (hr : ∀ k, r = some k → ∃ N, Cel w t' k N) (ht : t' ≠ 70) : CHas B w' ao n l := ⟨h.1.kept (own_grown h.2 hg hr ht).1, (own_grown h.2 hg hr ht).2⟩
theorem PHas.grown {B n : Nat} {w w' : World} {t' : TypeId} {ao : Option Addr} {l : List AV} {r : Option Nat} (h : PHas B w ao n l) (hg : w.grownBy w' r) (hr : ∀ k, r = some k → ∃ N, Cel w t' k N) (ht : t' ≠ 41) : PHas B w' ao n l := ⟨h.1.kept (own_grown h.2 hg hr ht).1, (own_grown h.2 hg hr ht).2⟩
theorem KHas.grown {B : Nat} {w w' : World} {t' : TypeId} {hs : List AV} {l : List Appl} {r : Option Nat} (h : KHas B w hs l) (hg : w.grownBy w' r) (hr : ∀ k, r = some k → ∃ N, Cel w t' k N) (ht : t' ≠ 106) : KHas B w' hs l :=
 ⟨⟨h.heads.1, fun i h1 h2 => let ⟨a, b, c, d⟩ := h.heads.2 i h1 h2; ⟨a, b, c.kept (own_grown (h.own _ (List.getElem_mem h1)) hg hr ht).1, d⟩⟩, fun v hv => (own_grown (h.own v hv) hg hr ht).2, h.apart⟩
/-- the block of a row that is owned is a row of that type -/
theorem owns_cel {w : World} {B sz n : Nat} {e : TypeId} {v : Value} {xs : List Value} (h : w.ownsRow B e sz v n xs) : ∀ k, v.ownBlock = some k → ∃ N, Cel w e k N := fun k hk => by
 rcases h.2 with ⟨rfl, _⟩ | ⟨g, cap, cur, rfl, _, h2, _⟩
 ·simp [Value.ownBlock] at hk
 ·obtain rfl : g = k := by simpa [Value.ownBlock] using hk
  exact ⟨_, cur, h2, rfl⟩
theorem Blk.grown {w w' : World} {g : Nat} {arr : Array Value} {t t' : TypeId} {r : Option Nat} (h : Blk w g arr t) (hg : w.grownBy w' r) (hr : ∀ k, r = some k → ∃ N, Cel w t' k N) (ht : t' ≠ t) : Blk w' g arr t :=
 (hg.block g h.lt (fun e => by obtain ⟨N, h4⟩ := hr g e.symm; exact ht (h4.type ⟨arr, h, rfl⟩))).trans h
theorem grown_sc (w : World) (g j : Nat) (v : Value) : w.grownBy (w.setCell ⟨g, j, none⟩ v) (some g) := ⟨rfl, rfl, rfl, by simp [World.setCell], fun k _ hne => Below.heap_setCell _ _ _ _ (by show k ≠ g; intro e; exact hne (by rw [e]))⟩
/-- a list that is nil has no room -/
structure SSome (x : Sls) (hs : List AV) : Prop where
 q : x.qa = none → x.ql = 0 ∧ x.qc = 0
 m : x.ma = none → x.ml = 0 ∧ x.mc = 0
 c : x.ca = none → x.cl = 0 ∧ x.cc = 0
 k : ∀ v ∈ hs, v.ao = none → v.len = 0 ∧ v.cap = 0
theorem none_cap {B E : Nat} {w : World} {t : TypeId} {sz c n : Nat} {ao : Option Addr} (h : Own1 B E w t sz ao c) (hn : n ≤ c) (e : ao = none) : n = 0 ∧ c = 0 := by
 rcases h with h | ⟨g, M, h1, _⟩
 ·omega
 ·rw [e] at h1; cases h1
theorem SAns.some {B E : Nat} {w : World} {x : Sls} {s : St} {hs : List AV} (h : SAns B E w x s hs) : SSome x hs :=
 ⟨none_cap h.rm.1 h.cap.q, none_cap h.rm.2.2.1 h.cap.m, none_cap h.rm.2.2.2.1 h.cap.c, fun v hv => none_cap (h.rm.2.2.2.2 v hv) (by
  obtain ⟨i, hi, rfl⟩ := List.getElem_of_mem hv
  exact (h.heads.2 i hi (by rw [← h.heads.1]; exact hi)).2.2.2)⟩
end Go.Proofs.YtbkchepelhkjlaaGreat

/-
 Lists of a state of which the first element is edited in place; a drawn state, as its users need it.
-/
namespace Go.Proofs.YtbkchepelhkjlaaGreat
open Go.RowKit
set_option linter.unusedVariables false
theorem SmS.addC {s : St} {a m c : Nat} (h : SmS s a m c) (x : Con) (hx : x.node.length ≤ 12 ∧ 0 ≤ x.app ∧ x.app ≤ 100000) : SmS ⟨s.qs, s.clock, s.epoch, s.next, s.serial, s.apps, s.ms, s.cs ++ [x]⟩ a m (c + 1) :=
 ⟨h.q, h.al, h.ml, by have := h.cl; simp; omega, h.ap, h.mn, fun y hy => by rcases List.mem_append.1 hy with hy | hy; exact h.cn y hy; simp at hy; subst hy; exact hx, h.nx, by have := h.se; show 0 ≤ s.serial ∧ s.serial ≤ _; omega⟩
/-- the block of a list that has an element -/
theorem own_blk {B : Nat} {w : World} {t : TypeId} {sz n : Nat} {ao : Option Addr} (h : Own1 B w.heap.size w t sz ao n) (hn : 0 < n) : ∃ g M, ao = some ⟨g, 0, none⟩ ∧ B ≤ g ∧ Cel w t g (M * sz) ∧ n ≤ M := by
 rcases h with e | ⟨g, M, e, h1, _, h2, h3⟩
 ·omega
 ·exact ⟨g, M, e, h1, h2, h3⟩
theorem off_cel {B : Nat} {w : World} {k0 N : Nat} {t' t : TypeId} (h : Cel w t' k0 N) (ht : t' ≠ t) : Off B w t (fun k => k = k0) := fun k e => .inr ⟨t', N, by subst e; exact h, ht⟩
section
variable {B n : Nat} {w : World} {ao : Option Addr}
theorem CHas.mem0 {g M : Nat} {c : Con} {t : List Con} (h : CHas B w (some ⟨g, 0, none⟩) n (c :: t)) (hc : Cel w 70 g (M * 5)) (x : Int) :
  w.cell? ⟨g, 3, none⟩ = some (.int .i64 c.mem) ∧ CHas B (w.setCell ⟨g, 3, none⟩ (.int .i64 x)) (some ⟨g, 0, none⟩) n (⟨c.id, c.app, c.node, x, c.cpu⟩ :: t) := by
 obtain ⟨⟨h1, h2⟩, h3⟩ := h
 rcases h2 with e | ⟨b, off, e, hh⟩
 ·rw [e] at h1; simp at h1
 ·cases e
  have c0 := hh 0 (by simp)
  simp only [Nat.zero_mul, Nat.add_zero, List.getElem_cons_zero] at c0
  obtain ⟨a0, a1, a2, a3, a4⟩ := c0
  simp only [Nat.zero_add] at a0 a1 a2 a3 a4
  refine ⟨a3, ⟨by simpa using h1, .inr ⟨g, 0, rfl, fun i hi => ?_⟩⟩, ?_⟩
  ·cases i with
   | zero =>
    simp only [Nat.zero_mul, Nat.add_zero, List.getElem_cons_zero]
    exact ⟨cellKeep a0 (by omega), cellKeep a1 (by omega), cellKeep a2 (by omega), World.cell?_setCell_same _ ⟨g, 3, none⟩ _ a3, cellKeep a4 (by omega)⟩
   | succ i =>
    have ci := hh (i + 1) (by simpa using hi)
    simp only [List.getElem_cons_succ] at ci ⊢
    obtain ⟨b0, b1, b2, b3, b4⟩ := ci
    exact ⟨cellKeep b0 (by omega), cellKeep b1 (by omega), cellKeep b2 (by omega), cellKeep b3 (by omega), cellKeep b4 (by omega)⟩
  ·rw [set_size]; exact h3.mks (Mks.one (fun x => x = g) w g 3 _ rfl)
theorem MHas.seen0 {g M : Nat} {c : Mac} {t : List Mac} (h : MHas B w (some ⟨g, 0, none⟩) n (c :: t)) (hc : Cel w 56 g (M * 4)) (x : Int) :
  w.cell? ⟨g, 3, none⟩ = some (.int .i64 c.seen) ∧ MHas B (w.setCell ⟨g, 3, none⟩ (.int .i64 x)) (some ⟨g, 0, none⟩) n (⟨c.name, c.mem, c.cpu, x⟩ :: t) := by
 obtain ⟨⟨h1, h2⟩, h3⟩ := h
 rcases h2 with e | ⟨b, off, e, hh⟩
 ·rw [e] at h1; simp at h1
 ·cases e
  have c0 := hh 0 (by simp)
  simp only [Nat.zero_mul, Nat.add_zero, List.getElem_cons_zero] at c0
  obtain ⟨a0, a1, a2, a3⟩ := c0
  simp only [Nat.zero_add] at a0 a1 a2 a3
  refine ⟨a3, ⟨by simpa using h1, .inr ⟨g, 0, rfl, fun i hi => ?_⟩⟩, ?_⟩
  ·cases i with
   | zero =>
    simp only [Nat.zero_mul, Nat.add_zero, List.getElem_cons_zero]
    exact ⟨cellKeep a0 (by omega), cellKeep a1 (by omega), cellKeep a2 (by omega), World.cell?_setCell_same _ ⟨g, 3, none⟩ _ a3⟩
   | succ i =>
    have ci := hh (i + 1) (by simpa using hi)
    simp only [List.getElem_cons_succ] at ci ⊢
    obtain ⟨b0, b1, b2, b3⟩ := ci
    exact ⟨cellKeep b0 (by omega), cellKeep b1 (by omega), cellKeep b2 (by omega), cellKeep b3 (by omega)⟩
  ·rw [set_size]; exact h3.mks (Mks.one (fun x => x = g) w g 3 _ rfl)
theorem PHas.queue0 {g M : Nat} {c : AV} {t : List AV} (h : PHas B w (some ⟨g, 0, none⟩) n (c :: t)) (hc : Cel w 41 g (M * 3)) (x : List UInt8) :
  w.cell? ⟨g, 1, none⟩ = some (.string (bs c.queue)) ∧ PHas B (w.setCell ⟨g, 1, none⟩ (.string (bs x))) (some ⟨g, 0, none⟩) n (⟨c.id, x, c.ao, c.len, c.cap⟩ :: t) := by
 obtain ⟨⟨h1, h2⟩, h3⟩ := h
 rcases h2 with e | ⟨b, off, e, hh⟩
 ·rw [e] at h1; simp at h1
 ·cases e
  have c0 := hh 0 (by simp)
  simp only [Nat.zero_mul, Nat.add_zero, List.getElem_cons_zero] at c0
  obtain ⟨a0, a1, a2⟩ := c0
  simp only [Nat.zero_add] at a0 a1 a2
  refine ⟨a1, ⟨by simpa using h1, .inr ⟨g, 0, rfl, fun i hi => ?_⟩⟩, ?_⟩
  ·cases i with
   | zero =>
    simp only [Nat.zero_mul, Nat.add_zero, List.getElem_cons_zero]
    exact ⟨cellKeep a0 (by omega), World.cell?_setCell_same _ ⟨g, 1, none⟩ _ a1, cellKeep a2 (by omega)⟩
   | succ i =>
    have ci := hh (i + 1) (by simpa using hi)
    simp only [List.getElem_cons_succ] at ci ⊢
    obtain ⟨b0, b1, b2⟩ := ci
    exact ⟨cellKeep b0 (by omega), cellKeep b1 (by omega), cellKeep b2 (by omega)⟩
  ·rw [set_size]; exact h3.mks (Mks.one (fun x => x = g) w g 1 _ rfl)
theorem KHas.queue0 {c : AV} {t : List AV} {a : Appl} {l : List Appl} (h : KHas B w (c :: t) (a :: l)) (x : List UInt8) : KHas B w (⟨c.id, x, c.ao, c.len, c.cap⟩ :: t) (⟨a.id, x, a.asks⟩ :: l) := by
 refine ⟨⟨by simpa using h.heads.1, fun i h1 h2 => ?_⟩, fun v hv => ?_, ?_⟩
 ·cases i with
  | zero =>
   have := h.heads.2 0 (by simp) (by simp)
   simp only [List.getElem_cons_zero] at this ⊢
   exact ⟨this.1, trivial, this.2.2⟩
  | succ i =>
   have := h.heads.2 (i + 1) (by simpa using h1) (by simpa using h2)
   simpa using this
 ·rcases List.mem_cons.1 hv with rfl | hv
  ·exact h.own c (by simp)
  ·exact h.own v (by simp [hv])
 ·have := h.apart
  rw [List.pairwise_cons] at this ⊢
  exact ⟨fun v hv => this.1 v hv, this.2⟩
end
section
variable {B : Nat} {w : World} {x : Sls} {s : St} {hs : List AV}
theorem SHas.mem0 {g : Nat} {c : Con} {t : List Con} (h : SHas B w x s hs) (hg : x.ca = some ⟨g, 0, none⟩) (e : s.cs = c :: t) (v : Int) : (∃ arr, Blk w g arr 70 ∧ 3 < arr.size ∧ B ≤ g) ∧ SHas B (w.setCell ⟨g, 3, none⟩ (.int .i64 v)) x ⟨s.qs, s.clock, s.epoch, s.next, s.serial, s.apps, s.ms, ⟨c.id, c.app, c.node, v, c.cpu⟩ :: t⟩ hs := by
 have hn : 0 < x.cl := by have := h.c.1.1; rw [e] at this; simp at this; omega
 obtain ⟨g', M, e', hB, hc, hM⟩ := own_blk h.c.2 hn
 obtain rfl : g = g' := by rw [hg] at e'; cases e'; rfl
 have hm : Mks (fun k => k = g) w (w.setCell ⟨g, 3, none⟩ (.int .i64 v)) := Mks.one _ w g 3 _ rfl
 have hC := h.c
 rw [e, hg] at hC
 obtain ⟨arr, ha, hz⟩ := hc
 refine ⟨⟨arr, ha, by omega, hB⟩, h.q.off hm (off_cel ⟨arr, ha, hz⟩ (by decide)), h.p.off hm (off_cel ⟨arr, ha, hz⟩ (by decide)), h.k.off hm (off_cel ⟨arr, ha, hz⟩ (by decide)), h.m.off hm (off_cel ⟨arr, ha, hz⟩ (by decide)), ?_, h.cap, (h.rm.mks hm).mono (Nat.le_refl _) hm.size⟩
 rw [hg]
 exact (hC.mem0 ⟨arr, ha, hz⟩ v).2
theorem SHas.seen0 {g : Nat} {c : Mac} {t : List Mac} (h : SHas B w x s hs) (hg : x.ma = some ⟨g, 0, none⟩) (e : s.ms = c :: t) (v : Int) : (∃ arr, Blk w g arr 56 ∧ 3 < arr.size ∧ B ≤ g) ∧ SHas B (w.setCell ⟨g, 3, none⟩ (.int .i64 v)) x ⟨s.qs, s.clock, s.epoch, s.next, s.serial, s.apps, ⟨c.name, c.mem, c.cpu, v⟩ :: t, s.cs⟩ hs := by
 have hn : 0 < x.ml := by have := h.m.1.1; rw [e] at this; simp at this; omega
 obtain ⟨g', M, e', hB, hc, hM⟩ := own_blk h.m.2 hn
 obtain rfl : g = g' := by rw [hg] at e'; cases e'; rfl
 have hm : Mks (fun k => k = g) w (w.setCell ⟨g, 3, none⟩ (.int .i64 v)) := Mks.one _ w g 3 _ rfl
 have hC := h.m
 rw [e, hg] at hC
 obtain ⟨arr, ha, hz⟩ := hc
 refine ⟨⟨arr, ha, by omega, hB⟩, h.q.off hm (off_cel ⟨arr, ha, hz⟩ (by decide)), h.p.off hm (off_cel ⟨arr, ha, hz⟩ (by decide)), h.k.off hm (off_cel ⟨arr, ha, hz⟩ (by decide)), ?_, h.c.off hm (off_cel ⟨arr, ha, hz⟩ (by decide)), h.cap, (h.rm.mks hm).mono (Nat.le_refl _) hm.size⟩
 rw [hg]
 exact (hC.seen0 ⟨arr, ha, hz⟩ v).2
theorem SHas.queue0 {g : Nat} {c : AV} {t : List AV} {a : Appl} {l : List Appl} (h : SHas B w x s (c :: t)) (hg : x.aa = some ⟨g, 0, none⟩) (e : s.apps = a :: l) (v : List UInt8) : (∃ arr, Blk w g arr 41 ∧ 1 < arr.size ∧ B ≤ g) ∧ SHas B (w.setCell ⟨g, 1, none⟩ (.string (bs v))) x ⟨s.qs, s.clock, s.epoch, s.next, s.serial, ⟨a.id, v, a.asks⟩ :: l, s.ms, s.cs⟩ (⟨c.id, v, c.ao, c.len, c.cap⟩ :: t) := by
 have hn : 0 < x.al := by have := h.p.1.1; simp at this; omega
 obtain ⟨g', M, e', hB, hc, hM⟩ := own_blk h.p.2 hn
 obtain rfl : g = g' := by rw [hg] at e'; cases e'; rfl
 have hm : Mks (fun k => k = g) w (w.setCell ⟨g, 1, none⟩ (.string (bs v))) := Mks.one _ w g 1 _ rfl
 have hC := h.p
 rw [hg] at hC
 have hK := h.k
 rw [e] at hK
 obtain ⟨arr, ha, hz⟩ := hc
 have hrm := (h.rm.mks hm).mono (Nat.le_refl B) hm.size
 refine ⟨⟨arr, ha, by omega, hB⟩, h.q.off hm (off_cel ⟨arr, ha, hz⟩ (by decide)), ?_, (hK.off hm (off_cel ⟨arr, ha, hz⟩ (by decide))).queue0 v, h.m.off hm (off_cel ⟨arr, ha, hz⟩ (by decide)), h.c.off hm (off_cel ⟨arr, ha, hz⟩ (by decide)), h.cap, hrm.1, hrm.2.1, hrm.2.2.1, hrm.2.2.2.1, fun z hz' => ?_⟩
 ·rw [hg]
  exact (hC.queue0 ⟨arr, ha, hz⟩ v).2
 ·rcases List.mem_cons.1 hz' with rfl | hz'
  ·exact hrm.2.2.2.2 c (by simp)
  ·exact hrm.2.2.2.2 z (by simp [hz'])
end
/-- what a drawn state is to its users: right as memory, small, its lists behind the cursor -/
structure DrS (g : Nat) (w : World) (y : Sls) (s : St) (hs : List AV) : Prop where
 q : QRow w y.qa y.ql s.qs
 qg : ∀ k, inR y.qa y.ql k → g < k
 p : PHas (g + 1) w y.aa y.al hs
 k : KHas (g + 1) w hs s.apps
 m : MHas (g + 1) w y.ma y.ml s.ms
 c : CHas (g + 1) w y.ca y.cl s.cs
 cap : y.ql ≤ y.qc
 sm : SSome y hs
 fit : FitSt s
 wf : WfSt s
section
variable {g : Nat} {w w' : World} {y : Sls} {s : St} {hs : List AV}
theorem DrS.row (h : DrS g w y s hs) : SRow w y s := ⟨h.q, appl_of h.p.1 h.k.heads, h.m.1, h.c.1⟩
theorem DrS.av (h : DrS g w y s hs) : AVRow w y.aa y.al hs := h.p.1
theorem DrS.hd (h : DrS g w y s hs) : Heads w hs s.apps := h.k.heads
theorem DrS.below (h : DrS g w y s hs) (hb : Below w.heap.size w w') : DrS g w' y s hs := ⟨h.q.below hb, h.qg, h.p.below hb, h.k.below hb, h.m.below hb, h.c.below hb, h.cap, h.sm, h.fit, h.wf⟩
theorem DrS.cur {ao : Option Addr} {len cap : Nat} (h : DrS g w y s hs) (hc : Cur w g ao len cap) (hc' : Cur w' g ao len cap) (hg : w.grownBy w' (some g)) : DrS g w' y s hs := by
 have hm := cur_mks hc hc' hg
 have ho := off_low (w := w) (B := g + 1) (g := g) (Nat.lt_succ_self g)
 exact ⟨h.q.mks hm (fun k hk e => by have := h.qg k hk; omega), h.qg, h.p.off hm ho.p, h.k.off hm ho.a, h.m.off hm ho.m, h.c.off hm ho.c, h.cap, h.sm, h.fit, h.wf⟩
theorem DrS.of {B : Nat} (h : SHas B w y s hs) (hB : g < B) (hf : FitSt s) (hw : WfSt s) : DrS g w y s hs :=
 ⟨h.q.1, fun k hk => by have := (h.q.2.lies k hk).1; omega, (h.p.base hB), h.k.base hB, h.m.base hB, h.c.base hB, h.cap.q, h.ans.some, hf, hw⟩
end
/-- what stands while a state is spoilt -/
structure DT (w : World) (B g : Nat) (ao : Option Addr) (len cap : Nat) (b : Nat) (arr : Array Value) (wr : World) : Prop where
 c : CSt w B g ao len cap wr
 gl : g < w.heap.size
 x : Blk wr b arr 29
 bl : w.heap.size < b
 r : Blk wr w.heap.size zero8 29
section
variable {w wr wy : World} {B g : Nat} {ao : Option Addr} {len cap : Nat} {b : Nat} {arr : Array Value}
theorem DT.below (h : DT w B g ao len cap b arr wr) (hb : Below wr.heap.size wr wy) : DT w B g ao len cap b arr wy := ⟨h.c.below hb, h.gl, h.x.below hb, h.bl, h.r.below hb⟩
theorem DT.mks {S : Nat → Prop} (h : DT w B g ao len cap b arr wr) (hm : Mks S wr wy) (hS : ∀ k, S k → w.heap.size ≤ k ∧ ∃ t N, Cel wr t k N ∧ t ≠ 29) : DT w B g ao len cap b arr wy := by
 have hx : ∀ {k : Nat} {a : Array Value}, Blk wr k a 29 → ¬ S k := fun hk e => let ⟨_, t, N, h1, h2⟩ := hS _ e; h2 (h1.type ⟨_, hk, rfl⟩)
 exact ⟨h.c.mks hm (fun k e => ⟨(hS k e).1, Nat.lt_of_lt_of_le h.gl (hS k e).1⟩), h.gl, hm.blk h.x (hx h.x), h.bl, hm.blk h.r (hx h.r)⟩
theorem DT.cur (h : DT w B g ao len cap b arr wr) (hc : Cur wy g ao len cap) (hg : wr.grownBy wy (some g)) : DT w B g ao len cap b arr wy := by
 have hm := cur_mks h.c.1 hc hg
 have h1 := h.gl; have h2 := h.bl
 exact ⟨h.c.step hc hg, h.gl, hm.blk h.x (by omega), h.bl, hm.blk h.r (by omega)⟩
theorem DT.off (h : DT w B g ao len cap b arr wr) (hc : Cur wy g ao len cap) (hg : wr.grownBy wy (some g)) {x : Sls} {s : St} {hs : List AV} (H : SHas w.heap.size wr x s hs) : SHas w.heap.size wy x s hs := H.off (cur_mks h.c.1 hc hg) (off_low h.gl)
theorem DT.set (h : DT w B g ao len cap b arr wr) (j : Nat) (v : Value) : DT w B g ao len cap b (arr.setIfInBounds j v) (wr.setCell ⟨b, j, none⟩ v) := by
 have hm : Mks (fun k => k = b) wr (wr.setCell ⟨b, j, none⟩ v) := Mks.one _ wr b j v rfl
 have h1 := h.gl; have h2 := h.bl
 exact ⟨h.c.mks hm (fun k e => by subst e; omega), h.gl, h.x.set j v, h.bl, hm.blk h.r (by omega)⟩
theorem DT.setH (h : DT w B g ao len cap b arr wr) (j : Nat) (v : Value) {x : Sls} {s : St} {hs : List AV} (H : SHas w.heap.size wr x s hs) : SHas w.heap.size (wr.setCell ⟨b, j, none⟩ v) x s hs :=
 H.off (Mks.one (fun k => k = b) wr b j v rfl) (off_blk h.x (by decide) (by decide) (by decide) (by decide) (by decide))
end
end Go.Proofs.YtbkchepelhkjlaaGreat

/-
 Queues that are drawn, and what is wrong with some of them: l03Queues; a walk over the dump.
-/
namespace Go.Proofs.YtbkchepelhkjlaaGreat
open Go.RowKit
set_option linter.unusedVariables false
def lenOf : Value → Nat
 | .slice _ n _ => n
 | _ => 0
theorem bs_z (l : List UInt8) : ({ data := #[122] } : ByteArray) ++ bs l = bs (122 :: l) := by
 apply ByteArray.ext
 simp [bs]
theorem QRow.gro {w w' : World} {b off len : Nat} {l : List Q} {row : Option Nat} (h : QRow w (some ⟨b, off, none⟩) len l) (hb : b < w.heap.size) (hg : w.grownBy w' row) (hr : row ≠ some b) : QRow w' (some ⟨b, off, none⟩) len l := by
 have hblk := hg.block b hb (fun e => hr e.symm)
 have hc : ∀ p, w'.cell? ⟨b, p, none⟩ = w.cell? ⟨b, p, none⟩ := fun p => by unfold World.cell?; rw [hblk]
 obtain ⟨h1, h2⟩ := h
 refine ⟨h1, ?_⟩
 rcases h2 with h2 | ⟨b', off', e, h4⟩
 ·exact .inl h2
 ·cases e
  exact .inr ⟨b, off, rfl, fun i hi => by obtain ⟨a0, a1, a2, a3⟩ := h4 i hi; exact ⟨(hc _).trans a0, (hc _).trans a1, (hc _).trans a2, (hc _).trans a3⟩⟩

set_option maxRecDepth 100000 in
set_option maxHeartbeats 4000000 in
theorem queues_st {w0 : World} {B g : Nat} {ao : Option Addr} {len cap : Nat} (w : World) (h : CSt w0 B g ao len cap w) :
  Calls Tryz.prog 59 #[.pointer (some ⟨g, 0, none⟩)] w fun e w' => ∃ qb n c' ls, e = .returned (.slice (some ⟨qb, 0, none⟩) n c') ∧ Hid (QRow w' (some ⟨qb, 0, none⟩) n ls) ∧ (g < qb ∧ 3 ≤ n) ∧ n ≤ c' ∧ n ≤ 1000 ∧ Hid (Brief ls) ∧ Hid (CSt w0 B g ao len cap w') := by
 obtain ⟨i0, hi, hz0, hz1, hz2⟩ := info_parts Tryz.infoQD
 have HS := hide h
 have hgl := h.1.lt
 have hw0 := h.2.2.1.size
 have hBg := h.2.2.2
 clear h
 go_enter Tryz.func59, Tryz.ntmps59
 go_wp2_with fail
 refine (right_st w (unhide HS)).mono ?_
 rintro e w1 ⟨v, ls, rfl, HQ, hn3, hn5, HBR, HS1⟩
 obtain ⟨qb, qc, cur, rfl, hrow, hqc, hwq, hblk⟩ := (unhide HQ).row (by intro e; rw [e] at hn3; simp at hn3)
 have hqb : qb < w1.heap.size := lt_of_block hblk
 have HROW := hide hrow
 have HBLK := hide hblk
 obtain ⟨n, hn⟩ : ∃ n, ls.length = n := ⟨_, rfl⟩
 have HN := hide hn
 rw [hn] at hn3 hn5 hqc HROW HQ ⊢
 clear hrow hblk hn HS
 go_wp2_with fail
 refine (below_st (n : Int) _ (unhide HS1) (by omega) (by omega)).mono ?_
 rintro e w2 ⟨x, rfl, hx0, hx1, hs2, hg2⟩
 obtain ⟨X, rfl⟩ := Int.eq_ofNat_of_zero_le hx0
 have HS2 := hide hs2
 have HR2 := hide ((unhide HROW).gro hqb hg2 (by intro e; cases e; omega))
 have HB2 := hide ((hg2.block qb hqb (by intro e; cases e; omega)).trans (unhide HBLK))
 have HQ2 := hide ((unhide HQ).kept hg2 (fun k e => by cases e; omega))
 have hs12 := hg2.size
 clear hs2 hg2 HROW HBLK HQ HS1
 go_wp2_with fail
 refine (below_st 16 _ (unhide HS2) (by decide) (by decide)).mono ?_
 rintro e w3 ⟨k, rfl, hk0, hk1, hs3, hg3⟩
 have HS3 := hide hs3
 have HR3 := hide ((unhide HR2).gro (by omega) hg3 (by intro e; cases e; omega))
 have HB3 := hide ((hg3.block qb (by omega) (by intro e; cases e; omega)).trans (unhide HB2))
 have HQ3 := hide ((unhide HQ2).kept hg3 (fun k e => by cases e; omega))
 have hs23 := hg3.size
 clear hs3 hg3 HR2 HB2 HQ2 HS2
 have hXl : X < n := by omega
 have hXls : X < ls.length := by have := unhide HN; omega
 have fin : ∀ (wy : World) (j : Nat) (val : Value) (q : Q), QRow wy (some ⟨qb, 0, none⟩) n ls → CSt w0 B g ao len cap wy → (q.name.length ≤ 1000 ∧ q.parent.length ≤ 1000) →
   ((j = 0 ∧ val = .string (bs q.name) ∧ q = { ls[X] with name := q.name }) ∨ (j = 1 ∧ val = .string (bs q.parent) ∧ q = { ls[X] with parent := q.parent }) ∨ (j = 2 ∧ val = .int .i64 q.due ∧ q = { ls[X] with due := q.due }) ∨ (j = 3 ∧ val = .int .i64 q.most ∧ q = { ls[X] with most := q.most })) →
   Hid (QRow (wy.setCell ⟨qb, 0 + X * 4 + j, none⟩ val) (some ⟨qb, 0, none⟩) n (ls.set X q)) ∧ Hid (Brief (ls.set X q)) ∧ Hid (CSt w0 B g ao len cap (wy.setCell ⟨qb, 0 + X * 4 + j, none⟩ val)) := fun wy j val q h1 h2 h3 h4 =>
  ⟨hide (h1.put X hXls q j val h4), hide ((unhide HBR).set X q h3), hide (h2.set qb _ val (by omega) (by omega) (by omega))⟩
 have FIN := hide fin
 have hnm := unhide HBR ls[X] (List.getElem_mem _)
 obtain ⟨⟨qn, qp, qd, qm⟩, hqX⟩ : ∃ q, ls[X] = q := ⟨_, rfl⟩
 rw [hqX] at hnm
 have HQX := hide hqX
 clear fin hqX
 simp only at hnm
 have X0 : (0 : Int) ≤ X := by omega
 have X1 : (X : Int) < n := by omega
 rcases (show k = 0 ∨ k = 1 ∨ k = 2 ∨ k = 3 ∨ k = 4 ∨ 5 ≤ k by omega) with rfl | rfl | rfl | rfl | rfl | hk5
 ·go_wp2_with fail
  refine (name_st _ (unhide HS3).rebase).mono ?_
  rintro e w4 ⟨s, rfl, hsz, hs4⟩
  have HS4 := hide ((unhide HS3).step hs4.1 hs4.2.2.1)
  have HR4 := hide ((unhide HR3).gro (by omega) hs4.2.2.1 (by intro e; cases e; omega))
  have hb4 := (hs4.2.2.1.block qb (by omega) (by intro e; cases e; omega)).trans (unhide HB3)
  have cc := ((unhide HR4).at hXl)
  obtain ⟨b', off', e', hat⟩ := cc
  cases e'
  have c0 := (hat hXls).1
  have f0 : w4.frozen? ⟨qb, X * 4, none⟩ = false := by simp [World.frozen?, hb4]
  simp only [Nat.zero_add] at c0
  obtain ⟨nn, rfl⟩ : ∃ l, s = bs l := ⟨s.data.toList, by simp [bs]⟩
  rw [bs_size] at hsz
  obtain ⟨F1, F2, F3⟩ := unhide FIN w4 0 (.string (bs nn)) ⟨nn, qp, qd, qm⟩ (unhide HR4) (unhide HS4) ⟨by simp only; omega, hnm.2⟩ (.inl ⟨rfl, rfl, by rw [unhide HQX]⟩)
  simp only [Nat.zero_add, Nat.add_zero] at F1 F2 F3
  clear hs4 hb4 hat
  go_wp2
  go_ret
  exact ⟨qb, n, qc, _, rfl, F1, ⟨by omega, hn3⟩, hqc, by omega, F2, F3⟩
 ·have hq := hide (pickt_alloc w3 9 [⟨#[]⟩, ⟨#[97]⟩, ⟨#[110, 111, 110, 101]⟩, ⟨#[98, 50]⟩] (by decide))
  go_wp2_with fail
  refine (pickS_st w3.heap.size 4 4 _ ((unhide HS3).alloc _).rebase (unhide hq) (by omega) (by decide) (by decide)).mono ?_
  rintro e w4 ⟨s, rfl, hsz, hs4⟩
  have hg4 := grownBy_trans (grownBy_below (grownBy_refl w3 (some g)) (below_al (Below.refl _ w3) _)) hs4.2.2.1
  have HS4 := hide ((unhide HS3).step hs4.1 hg4)
  have HR4 := hide ((unhide HR3).gro (by omega) hg4 (by intro e; cases e; omega))
  have hb4 := (hg4.block qb (by omega) (by intro e; cases e; omega)).trans (unhide HB3)
  obtain ⟨b', off', e', hat⟩ := ((unhide HR4).at hXl)
  cases e'
  have c0 := (hat hXls).2.1
  have f0 : w4.frozen? ⟨qb, X * 4 + 1, none⟩ = false := by simp [World.frozen?, hb4]
  simp only [Nat.zero_add] at c0
  obtain ⟨nn, rfl⟩ : ∃ l, s = bs l := ⟨s.data.toList, by simp [bs]⟩
  rw [bs_size] at hsz
  obtain ⟨F1, F2, F3⟩ := unhide FIN w4 1 (.string (bs nn)) ⟨qn, nn, qd, qm⟩ (unhide HR4) (unhide HS4) ⟨hnm.1, by simp only; omega⟩ (.inr (.inl ⟨rfl, rfl, by rw [unhide HQX]⟩))
  simp only [Nat.zero_add] at F1 F2 F3
  clear hs4 hb4 hat hg4 hq
  go_wp2
  go_ret
  exact ⟨qb, n, qc, _, rfl, F1, ⟨by omega, hn3⟩, hqc, by omega, F2, F3⟩
 ·have hq := hide (ints_alloc w3 3 [-1, 10001, 9999, 0] (by decide))
  go_wp2_with fail
  refine (pick_st w3.heap.size 4 4 _ ((unhide HS3).alloc _).rebase (unhide hq) (by omega) (by decide) (by decide)).mono ?_
  rintro e w4 ⟨s, rfl, _, _, hs4⟩
  have hg4 := grownBy_trans (grownBy_below (grownBy_refl w3 (some g)) (below_al (Below.refl _ w3) _)) hs4.2.2.1
  have HS4 := hide ((unhide HS3).step hs4.1 hg4)
  have HR4 := hide ((unhide HR3).gro (by omega) hg4 (by intro e; cases e; omega))
  have hb4 := (hg4.block qb (by omega) (by intro e; cases e; omega)).trans (unhide HB3)
  obtain ⟨b', off', e', hat⟩ := ((unhide HR4).at hXl)
  cases e'
  have c0 := (hat hXls).2.2.1
  have f0 : w4.frozen? ⟨qb, X * 4 + 2, none⟩ = false := by simp [World.frozen?, hb4]
  simp only [Nat.zero_add] at c0
  obtain ⟨F1, F2, F3⟩ := unhide FIN w4 2 (.int .i64 s) ⟨qn, qp, s, qm⟩ (unhide HR4) (unhide HS4) hnm (.inr (.inr (.inl ⟨rfl, rfl, by rw [unhide HQX]⟩)))
  simp only [Nat.zero_add] at F1 F2 F3
  clear hs4 hb4 hat hg4 hq
  go_wp2
  go_ret
  exact ⟨qb, n, qc, _, rfl, F1, ⟨by omega, hn3⟩, hqc, by omega, F2, F3⟩
 ·have hq := hide (ints_alloc w3 3 [-1, 10001, 0] (by decide))
  go_wp2_with fail
  refine (pick_st w3.heap.size 3 3 _ ((unhide HS3).alloc _).rebase (unhide hq) (by omega) (by decide) (by decide)).mono ?_
  rintro e w4 ⟨s, rfl, _, _, hs4⟩
  have hg4 := grownBy_trans (grownBy_below (grownBy_refl w3 (some g)) (below_al (Below.refl _ w3) _)) hs4.2.2.1
  have HS4 := hide ((unhide HS3).step hs4.1 hg4)
  have HR4 := hide ((unhide HR3).gro (by omega) hg4 (by intro e; cases e; omega))
  have hb4 := (hg4.block qb (by omega) (by intro e; cases e; omega)).trans (unhide HB3)
  obtain ⟨b', off', e', hat⟩ := ((unhide HR4).at hXl)
  cases e'
  have c0 := (hat hXls).2.2.2
  have f0 : w4.frozen? ⟨qb, X * 4 + 3, none⟩ = false := by simp [World.frozen?, hb4]
  simp only [Nat.zero_add] at c0
  obtain ⟨F1, F2, F3⟩ := unhide FIN w4 3 (.int .i64 s) ⟨qn, qp, qd, s⟩ (unhide HR4) (unhide HS4) hnm (.inr (.inr (.inr ⟨rfl, rfl, by rw [unhide HQX]⟩)))
  simp only [Nat.zero_add] at F1 F2 F3
  clear hs4 hb4 hat hg4 hq
  go_wp2
  go_ret
  exact ⟨qb, n, qc, _, rfl, F1, ⟨by omega, hn3⟩, hqc, by omega, F2, F3⟩
 ·go_wp2
  go_loopw [3] (fun v wr => ∃ ls', v.ownBlock = v.ownBlock ∧ Hid (QDr w.heap.size wr v ls') ∧ 3 ≤ ls'.length ∧ ls'.length ≤ 21 ∧ Hid (Brief ls') ∧ Hid (CSt w0 B g ao len cap wr) ∧ w1.heap.size ≤ wr.heap.size) (fun v _ => 21 - lenOf v)
  case atStart => exact ⟨ls, rfl, HQ3, by have := unhide HN; omega, by have := unhide HN; omega, HBR, HS3, by omega⟩
  case round =>
   obtain ⟨ls', _, HQr, hl3, hl21, HBRr, HSr, hszr⟩ := hrel
   obtain ⟨qb', qc', cur', rfl, hrow, hqc', hwq', hblk⟩ := (unhide HQr).row (by intro e; rw [e] at hl3; simp at hl3)
   obtain ⟨m, hm⟩ : ∃ n, ls'.length = n := ⟨_, rfl⟩
   have HM := hide hm
   rw [hm] at hl3 hl21 hqc' HQr ⊢
   clear hrow hblk hm
   go_wp2_with fail
   refine (below_st 2 _ (unhide HSr) (by decide) (by decide)).mono ?_
   rintro e w5 ⟨y, rfl, hy0, hy1, hs5, hg5⟩
   have HS5 := hide hs5
   have HQ5 := hide ((unhide HQr).kept hg5 (fun k e => by cases e; omega))
   have hsz5 : wr.heap.size ≤ w5.heap.size := hg5.size
   clear hs5 hg5 HSr HQr
   by_cases hlt : (m : Int) < 20 + y
   ·have hit := Lib.itoa_length_le (100 + (m : Int)) (by omega) (by omega)
    have CD := hide (fun wx => (specDecText_any (100 + (m : Int)) wx (by omega) (by omega)).mono (fun e w' (h : _ ∧ w' = wx) => (show _ ∧ wx = w' from ⟨h.1, h.2.symm⟩)))
    have hzz := bs_z (Lib.itoa (100 + (m : Int)))
    have hsi : (bs (Lib.itoa (100 + (m : Int)))).size ≤ 30 := by rw [bs_size]; omega
    have hnl : (122 :: Lib.itoa (100 + (m : Int))).length ≤ 1000 := by simp; omega
    obtain ⟨it, hite⟩ : ∃ l, Lib.itoa (100 + (m : Int)) = l := ⟨_, rfl⟩
    rw [hite] at CD hzz hsi hnl
    obtain ⟨nz, hnz⟩ : ∃ l, 122 :: it = l := ⟨_, rfl⟩
    rw [hnz] at hzz hnl
    have n1 : ¬ 9223372036854775807 < 1 + (bs it).size := by omega
    obtain ⟨sb, hsb⟩ : ∃ s, bs it = s := ⟨_, rfl⟩
    rw [hsb] at CD hzz hsi n1
    have hown : w5.ownsRow w.heap.size 59 4 _ ls'.length (dcells ls') := unhide HQ5
    rw [unhide HM] at hown
    have hs2 : w.heap.size ≤ w5.heap.size := by omega
    clear hit hite hnz hsb
    go_wp2_with (first
     | (go_at_call 113; refine (unhide CD _).mono ?_; rintro e w6 ⟨rfl, rfl⟩)
     | (at_builtin; refine wpList_append_own _ rfl _ _ 24 rfl w.heap.size 59 i0 (.agg #[.string ByteArray.empty, .string ByteArray.empty, .int .i64 0, .int .i64 0]) 4 48 Tryz.underlying24 hi hz0 hz1 hz2 rfl (by decide) _ _ _ rfl (hown.alloc _) ⟨w5.heap.size, 0, none⟩ 1 1 (dcell ⟨nz, [114, 111, 111, 116], 0, 5⟩) rfl rfl ?c1 ?c2 ?c3 ?c4 ?c5 ?_))
    case c1 =>
     intro j x hj
     match j, hj with
     | 0, hj => simp at hj; subst hj; simp [Addr.add]
     | 1, hj => simp at hj; subst hj; simp [Addr.add]; rfl
     | 2, hj => simp at hj; subst hj; simp [Addr.add]
     | 3, hj => simp at hj; subst hj; simp [Addr.add]
     | _ + 4, hj => simp at hj
    case c2 => intro x hx; simp at hx; rcases hx with rfl | rfl | rfl | rfl <;> rfl
    case c3 => unfold maxLen; omega
    case c4 => omega
    case c5 => simp at hs2 ⊢; omega
    intro v' w7 hown' hgrow _
    have HQ7 := hide (show QDr w.heap.size w7 v' (ls' ++ [⟨nz, [114, 111, 111, 116], 0, 5⟩]) by unfold QDr; rw [dcells_app, List.length_append, unhide HM]; exact hown')
    have HS7 := hide (((unhide HS5).alloc _).gro hgrow (fun k hk => by
     rcases (unhide HQ5).2 with ⟨e, _⟩ | ⟨q, _, _, e, hq, _⟩
     ·rw [e] at hk; simp [Value.ownBlock] at hk
     ·rw [e] at hk; simp [Value.ownBlock] at hk; omega))
    have hsz7 : w5.heap.size + 1 ≤ w7.heap.size := by have := hgrow.size; rwa [World.size_alloc] at this
    have hlen7 : lenOf v' = m + 1 := by
     rcases (unhide HQ7).2 with ⟨_, h0⟩ | ⟨a, b, c, e, _⟩
     ·simp at h0
     ·rw [e]; simp [lenOf, unhide HM]
    have HL7 := hide hlen7
    clear hown' hgrow hown hlen7
    go_wp2
    go_roundw
    case rel =>
     refine ⟨ls' ++ [⟨nz, [114, 111, 111, 116], 0, 5⟩], by trivial, HQ7, by simp; have := unhide HM; omega, by simp; have := unhide HM; omega, hide ?_, HS7, by omega⟩
     intro q hq
     rcases List.mem_append.1 hq with hq | hq
     ·exact unhide HBRr q hq
     ·have : q = ⟨nz, [114, 111, 111, 116], 0, 5⟩ := by simpa using hq
      rw [this]; exact ⟨hnl, by simp⟩
    case measure => rw [unhide HL7]; simp [lenOf]; omega
   ·obtain ⟨HRW, hle⟩ : Hid (QRow w5 (some ⟨qb', 0, none⟩) m ls') ∧ m ≤ qc' := by
     obtain ⟨qb2, qc2, cur2, e2, hrow2, hqc2, _, _⟩ := (unhide HQ5).row (by intro e; have := unhide HM; rw [e] at this; simp at this; omega)
     rw [unhide HM] at e2 hrow2 hqc2
     cases e2
     exact ⟨hide hrow2, hqc2⟩
    go_wp2
    go_ret
    exact ⟨qb', m, qc', ls', rfl, HRW, ⟨by omega, hl3⟩, hle, by omega, HBRr, HS5⟩
 ·have e0 : (k == 0) = false := by simp; omega
  have e1 : (k == 1) = false := by simp; omega
  have e2 : (k == 2) = false := by simp; omega
  have e3 : (k == 3) = false := by simp; omega
  have e4 : (k == 4) = false := by simp; omega
  go_wp2
  go_ret
  exact ⟨qb, n, qc, ls, rfl, HR3, ⟨by omega, hn3⟩, hqc, by omega, HBR, HS3⟩
end Go.Proofs.YtbkchepelhkjlaaGreat
