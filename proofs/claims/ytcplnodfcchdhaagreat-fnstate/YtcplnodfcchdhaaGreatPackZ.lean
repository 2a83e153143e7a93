/-
  Several texts of this claim in one: GrowS, DrE (pack.py put them together); each says in its own remark what is proved.
-/
import Derived.Test.YtcplnodfcchdhaaGreatPackF
import Derived.Test.YtcplnodfcchdhaaGreatPackG
import Derived.Test.YtcplnodfcchdhaaGreatPackK
/-
  Rows that stand while another grows.
-/
namespace Go.Proofs.YtcplnodfcchdhaaGreat
open Go.RowKit
set_option linter.unusedVariables false
theorem cellEq {w w' : World} {b p : Nat} {u : Value} (h : w.cell? ⟨b, p, none⟩ = some u) (hb : w'.heap[b]? = w.heap[b]?) : w'.cell? ⟨b, p, none⟩ = some u := (World.cell?_of_block (w := w) (a := ⟨b, p, none⟩) hb).trans h
theorem QRow.kept {w w' : World} {ao : Option Addr} {len : Nat} {l : List Q} (h : QRow w ao len l) (hs : ∀ k, inR ao len k → w'.heap[k]? = w.heap[k]?) : QRow w' ao len l := by
  obtain ⟨h1, h2⟩ := h
  refine ⟨h1, ?_⟩
  rcases h2 with h2 | ⟨b, off, h3, h4⟩
  · exact .inl h2
  · by_cases hz : len = 0
    · exact .inl hz
    · have hb := hs b ⟨hz, off, h3⟩
      exact .inr ⟨b, off, h3, fun i h => let ⟨a, c, d, e⟩ := h4 i h; ⟨cellEq a hb, cellEq c hb, cellEq d hb, cellEq e hb⟩⟩
theorem MacRow.kept {w w' : World} {ao : Option Addr} {len : Nat} {l : List Mac} (h : MacRow w ao len l) (hs : ∀ k, inR ao len k → w'.heap[k]? = w.heap[k]?) : MacRow w' ao len l := by
  obtain ⟨h1, h2⟩ := h
  refine ⟨h1, ?_⟩
  rcases h2 with h2 | ⟨b, off, h3, h4⟩
  · exact .inl h2
  · by_cases hz : len = 0
    · exact .inl hz
    · have hb := hs b ⟨hz, off, h3⟩
      exact .inr ⟨b, off, h3, fun i h => let ⟨a, c, d, e⟩ := h4 i h; ⟨cellEq a hb, cellEq c hb, cellEq d hb, cellEq e hb⟩⟩
theorem ConRow.kept {w w' : World} {ao : Option Addr} {len : Nat} {l : List Con} (h : ConRow w ao len l) (hs : ∀ k, inR ao len k → w'.heap[k]? = w.heap[k]?) : ConRow w' ao len l := by
  obtain ⟨h1, h2⟩ := h
  refine ⟨h1, ?_⟩
  rcases h2 with h2 | ⟨b, off, h3, h4⟩
  · exact .inl h2
  · by_cases hz : len = 0
    · exact .inl hz
    · have hb := hs b ⟨hz, off, h3⟩
      exact .inr ⟨b, off, h3, fun i h => let ⟨a, c, d, e, f⟩ := h4 i h; ⟨cellEq a hb, cellEq c hb, cellEq d hb, cellEq e hb, cellEq f hb⟩⟩
theorem AskRow.kept {w w' : World} {ao : Option Addr} {len : Nat} {l : List Ask} (h : AskRow w ao len l) (hs : ∀ k, inR ao len k → w'.heap[k]? = w.heap[k]?) : AskRow w' ao len l := by
  obtain ⟨h1, h2⟩ := h
  refine ⟨h1, ?_⟩
  rcases h2 with h2 | ⟨b, off, h3, h4⟩
  · exact .inl h2
  · by_cases hz : len = 0
    · exact .inl hz
    · have hb := hs b ⟨hz, off, h3⟩
      exact .inr ⟨b, off, h3, fun i h => let ⟨a, c, d, e, f⟩ := h4 i h; ⟨cellEq a hb, cellEq c hb, cellEq d hb, cellEq e hb, cellEq f hb⟩⟩
theorem AVRow.kept {w w' : World} {ao : Option Addr} {len : Nat} {l : List AV} (h : AVRow w ao len l) (hs : ∀ k, inR ao len k → w'.heap[k]? = w.heap[k]?) : AVRow w' ao len l := by
  obtain ⟨h1, h2⟩ := h
  refine ⟨h1, ?_⟩
  rcases h2 with h2 | ⟨b, off, h3, h4⟩
  · exact .inl h2
  · by_cases hz : len = 0
    · exact .inl hz
    · have hb := hs b ⟨hz, off, h3⟩
      exact .inr ⟨b, off, h3, fun i h => let ⟨a, c, d⟩ := h4 i h; ⟨cellEq a hb, cellEq c hb, cellEq d hb⟩⟩

/-- a row grows: those of other types stand -/
theorem own_grown {B : Nat} {w w' : World} {t t' : TypeId} {sz n : Nat} {ao : Option Addr} {r : Option Nat} (h : Own1 B w.heap.size w t sz ao n) (hg : w.grownBy w' r) (hr : ∀ k, r = some k → ∃ N, Cel w t' k N) (ht : t' ≠ t) : (∀ k, inR ao n k → w'.heap[k]? = w.heap[k]?) ∧ Own1 B w'.heap.size w' t sz ao n := by
  have key : ∀ k, inR ao n k → w'.heap[k]? = w.heap[k]? := fun k hk => by
    obtain ⟨_, h2, N, h3⟩ := h.lies k hk
    refine hg.block k h2 (fun e => ?_)
    obtain ⟨N', h4⟩ := hr k e.symm
    exact ht (h4.type h3)
  refine ⟨key, ?_⟩
  rcases h with e | ⟨g, M, e, h1, h2, h3, h4⟩
  · exact .inl e
  · by_cases hz : n = 0
    · exact .inl hz
    · exact .inr ⟨g, M, e, h1, Nat.lt_of_lt_of_le h2 hg.size, h3.of_block (key g ⟨hz, 0, e⟩), h4⟩
theorem QHas.grown {B n : Nat} {w w' : World} {t' : TypeId} {ao : Option Addr} {l : List Q} {r : Option Nat} (h : QHas B w ao n l) (hg : w.grownBy w' r) (hr : ∀ k, r = some k → ∃ N, Cel w t' k N) (ht : t' ≠ 59) : QHas B w' ao n l := ⟨h.1.kept (own_grown h.2 hg hr ht).1, (own_grown h.2 hg hr ht).2⟩
theorem MHas.grown {B n : Nat} {w w' : World} {t' : TypeId} {ao : Option Addr} {l : List Mac} {r : Option Nat} (h : MHas B w ao n l) (hg : w.grownBy w' r) (hr : ∀ k, r = some k → ∃ N, Cel w t' k N) (ht : t' ≠ 56) : MHas B w' ao n l := ⟨h.1.kept (own_grown h.2 hg hr ht).1, (own_grown h.2 hg hr ht).2⟩
theorem CHas.grown {B n : Nat} {w w' : World} {t' : TypeId} {ao : Option Addr} {l : List Con} {r : Option Nat} (h : CHas B w ao n l) (hg : w.grownBy w' r) (hr : ∀ k, r = some k → ∃ N, Cel w t' k N) (ht : t' ≠ 72) : CHas B w' ao n l := ⟨h.1.kept (own_grown h.2 hg hr ht).1, (own_grown h.2 hg hr ht).2⟩
theorem PHas.grown {B n : Nat} {w w' : World} {t' : TypeId} {ao : Option Addr} {l : List AV} {r : Option Nat} (h : PHas B w ao n l) (hg : w.grownBy w' r) (hr : ∀ k, r = some k → ∃ N, Cel w t' k N) (ht : t' ≠ 41) : PHas B w' ao n l := ⟨h.1.kept (own_grown h.2 hg hr ht).1, (own_grown h.2 hg hr ht).2⟩
theorem KHas.grown {B : Nat} {w w' : World} {t' : TypeId} {hs : List AV} {l : List Appl} {r : Option Nat} (h : KHas B w hs l) (hg : w.grownBy w' r) (hr : ∀ k, r = some k → ∃ N, Cel w t' k N) (ht : t' ≠ 96) : KHas B w' hs l :=
  ⟨⟨h.heads.1, fun i h1 h2 => let ⟨a, b, c, d⟩ := h.heads.2 i h1 h2; ⟨a, b, c.kept (own_grown (h.own _ (List.getElem_mem h1)) hg hr ht).1, d⟩⟩, fun v hv => (own_grown (h.own v hv) hg hr ht).2, h.apart⟩
theorem Blk.grown {w w' : World} {g : Nat} {arr : Array Value} {t t' : TypeId} {r : Option Nat} (h : Blk w g arr t) (hg : w.grownBy w' r) (hr : ∀ k, r = some k → ∃ N, Cel w t' k N) (ht : t' ≠ t) : Blk w' g arr t :=
  (hg.block g h.lt (fun e => by obtain ⟨N, h4⟩ := hr g e.symm; exact ht (h4.type ⟨arr, h, rfl⟩))).trans h
/-- a list that is nil has no room -/
structure SSome (x : Sls) (hs : List AV) : Prop where
  q : x.qa = none → x.ql = 0 ∧ x.qc = 0
  m : x.ma = none → x.ml = 0 ∧ x.mc = 0
  c : x.ca = none → x.cl = 0 ∧ x.cc = 0
  k : ∀ v ∈ hs, v.ao = none → v.len = 0 ∧ v.cap = 0
theorem none_cap {B E : Nat} {w : World} {t : TypeId} {sz c n : Nat} {ao : Option Addr} (h : Own1 B E w t sz ao c) (hn : n ≤ c) (e : ao = none) : n = 0 ∧ c = 0 := by
  rcases h with h | ⟨g, M, h1, _⟩
  · omega
  · rw [e] at h1; cases h1
theorem SAns.some {B E : Nat} {w : World} {x : Sls} {s : St} {hs : List AV} (h : SAns B E w x s hs) : SSome x hs :=
  ⟨none_cap h.rm.1 h.cap.q, none_cap h.rm.2.2.1 h.cap.m, none_cap h.rm.2.2.2.1 h.cap.c, fun v hv => none_cap (h.rm.2.2.2.2 v hv) (by
    obtain ⟨i, hi, rfl⟩ := List.getElem_of_mem hv
    exact (h.heads.2 i hi (by rw [← h.heads.1]; exact hi)).2.2.2)⟩
end Go.Proofs.YtcplnodfcchdhaaGreat

/-
  Lists of a state of which the first element is edited in place; a drawn state, as its users need it.
-/
namespace Go.Proofs.YtcplnodfcchdhaaGreat
open Go.RowKit
set_option linter.unusedVariables false
theorem SmS.addC {s : St} {a m c : Nat} (h : SmS s a m c) (x : Con) (hx : x.node.length ≤ 12 ∧ 0 ≤ x.app ∧ x.app ≤ 100000) : SmS ⟨s.qs, s.clock, s.epoch, s.next, s.serial, s.apps, s.ms, s.cs ++ [x]⟩ a m (c + 1) :=
  ⟨h.q, h.al, h.ml, by have := h.cl; simp; omega, h.ap, h.mn, fun y hy => by rcases List.mem_append.1 hy with hy | hy; exact h.cn y hy; simp at hy; subst hy; exact hx, h.nx, by have := h.se; show 0 ≤ s.serial ∧ s.serial ≤ _; omega⟩
/-- the block of a list that has an element -/
theorem own_blk {B : Nat} {w : World} {t : TypeId} {sz n : Nat} {ao : Option Addr} (h : Own1 B w.heap.size w t sz ao n) (hn : 0 < n) : ∃ g M, ao = some ⟨g, 0, none⟩ ∧ B ≤ g ∧ Cel w t g (M * sz) ∧ n ≤ M := by
  rcases h with e | ⟨g, M, e, h1, _, h2, h3⟩
  · omega
  · exact ⟨g, M, e, h1, h2, h3⟩
theorem off_cel {B : Nat} {w : World} {k0 N : Nat} {t' t : TypeId} (h : Cel w t' k0 N) (ht : t' ≠ t) : Off B w t (fun k => k = k0) := fun k e => .inr ⟨t', N, by subst e; exact h, ht⟩
section
variable {B n : Nat} {w : World} {ao : Option Addr}
theorem CHas.mem0 {g M : Nat} {c : Con} {t : List Con} (h : CHas B w (some ⟨g, 0, none⟩) n (c :: t)) (hc : Cel w 72 g (M * 5)) (x : Int) :
    w.cell? ⟨g, 3, none⟩ = some (.int .i64 c.mem) ∧ CHas B (w.setCell ⟨g, 3, none⟩ (.int .i64 x)) (some ⟨g, 0, none⟩) n (⟨c.id, c.app, c.node, x, c.cpu⟩ :: t) := by
  obtain ⟨⟨h1, h2⟩, h3⟩ := h
  rcases h2 with e | ⟨b, off, e, hh⟩
  · rw [e] at h1; simp at h1
  · cases e
    have c0 := hh 0 (by simp)
    simp only [Nat.zero_mul, Nat.add_zero, List.getElem_cons_zero] at c0
    obtain ⟨a0, a1, a2, a3, a4⟩ := c0
    simp only [Nat.zero_add] at a0 a1 a2 a3 a4
    refine ⟨a3, ⟨by simpa using h1, .inr ⟨g, 0, rfl, fun i hi => ?_⟩⟩, ?_⟩
    · cases i with
      | zero =>
        simp only [Nat.zero_mul, Nat.add_zero, List.getElem_cons_zero]
        exact ⟨cellKeep a0 (by omega), cellKeep a1 (by omega), cellKeep a2 (by omega), World.cell?_setCell_same _ ⟨g, 3, none⟩ _ a3, cellKeep a4 (by omega)⟩
      | succ i =>
        have ci := hh (i + 1) (by simpa using hi)
        simp only [List.getElem_cons_succ] at ci ⊢
        obtain ⟨b0, b1, b2, b3, b4⟩ := ci
        exact ⟨cellKeep b0 (by omega), cellKeep b1 (by omega), cellKeep b2 (by omega), cellKeep b3 (by omega), cellKeep b4 (by omega)⟩
    · rw [set_size]; exact h3.mks (Mks.one (fun x => x = g) w g 3 _ rfl)
theorem MHas.seen0 {g M : Nat} {c : Mac} {t : List Mac} (h : MHas B w (some ⟨g, 0, none⟩) n (c :: t)) (hc : Cel w 56 g (M * 4)) (x : Int) :
    w.cell? ⟨g, 3, none⟩ = some (.int .i64 c.seen) ∧ MHas B (w.setCell ⟨g, 3, none⟩ (.int .i64 x)) (some ⟨g, 0, none⟩) n (⟨c.name, c.mem, c.cpu, x⟩ :: t) := by
  obtain ⟨⟨h1, h2⟩, h3⟩ := h
  rcases h2 with e | ⟨b, off, e, hh⟩
  · rw [e] at h1; simp at h1
  · cases e
    have c0 := hh 0 (by simp)
    simp only [Nat.zero_mul, Nat.add_zero, List.getElem_cons_zero] at c0
    obtain ⟨a0, a1, a2, a3⟩ := c0
    simp only [Nat.zero_add] at a0 a1 a2 a3
    refine ⟨a3, ⟨by simpa using h1, .inr ⟨g, 0, rfl, fun i hi => ?_⟩⟩, ?_⟩
    · cases i with
      | zero =>
        simp only [Nat.zero_mul, Nat.add_zero, List.getElem_cons_zero]
        exact ⟨cellKeep a0 (by omega), cellKeep a1 (by omega), cellKeep a2 (by omega), World.cell?_setCell_same _ ⟨g, 3, none⟩ _ a3⟩
      | succ i =>
        have ci := hh (i + 1) (by simpa using hi)
        simp only [List.getElem_cons_succ] at ci ⊢
        obtain ⟨b0, b1, b2, b3⟩ := ci
        exact ⟨cellKeep b0 (by omega), cellKeep b1 (by omega), cellKeep b2 (by omega), cellKeep b3 (by omega)⟩
    · rw [set_size]; exact h3.mks (Mks.one (fun x => x = g) w g 3 _ rfl)
theorem PHas.queue0 {g M : Nat} {c : AV} {t : List AV} (h : PHas B w (some ⟨g, 0, none⟩) n (c :: t)) (hc : Cel w 41 g (M * 3)) (x : List UInt8) :
    w.cell? ⟨g, 1, none⟩ = some (.string (bs c.queue)) ∧ PHas B (w.setCell ⟨g, 1, none⟩ (.string (bs x))) (some ⟨g, 0, none⟩) n (⟨c.id, x, c.ao, c.len, c.cap⟩ :: t) := by
  obtain ⟨⟨h1, h2⟩, h3⟩ := h
  rcases h2 with e | ⟨b, off, e, hh⟩
  · rw [e] at h1; simp at h1
  · cases e
    have c0 := hh 0 (by simp)
    simp only [Nat.zero_mul, Nat.add_zero, List.getElem_cons_zero] at c0
    obtain ⟨a0, a1, a2⟩ := c0
    simp only [Nat.zero_add] at a0 a1 a2
    refine ⟨a1, ⟨by simpa using h1, .inr ⟨g, 0, rfl, fun i hi => ?_⟩⟩, ?_⟩
    · cases i with
      | zero =>
        simp only [Nat.zero_mul, Nat.add_zero, List.getElem_cons_zero]
        exact ⟨cellKeep a0 (by omega), World.cell?_setCell_same _ ⟨g, 1, none⟩ _ a1, cellKeep a2 (by omega)⟩
      | succ i =>
        have ci := hh (i + 1) (by simpa using hi)
        simp only [List.getElem_cons_succ] at ci ⊢
        obtain ⟨b0, b1, b2⟩ := ci
        exact ⟨cellKeep b0 (by omega), cellKeep b1 (by omega), cellKeep b2 (by omega)⟩
    · rw [set_size]; exact h3.mks (Mks.one (fun x => x = g) w g 1 _ rfl)
theorem KHas.queue0 {c : AV} {t : List AV} {a : Appl} {l : List Appl} (h : KHas B w (c :: t) (a :: l)) (x : List UInt8) : KHas B w (⟨c.id, x, c.ao, c.len, c.cap⟩ :: t) (⟨a.id, x, a.asks⟩ :: l) := by
  refine ⟨⟨by simpa using h.heads.1, fun i h1 h2 => ?_⟩, fun v hv => ?_, ?_⟩
  · cases i with
    | zero =>
      have := h.heads.2 0 (by simp) (by simp)
      simp only [List.getElem_cons_zero] at this ⊢
      exact ⟨this.1, trivial, this.2.2⟩
    | succ i =>
      have := h.heads.2 (i + 1) (by simpa using h1) (by simpa using h2)
      simpa using this
  · rcases List.mem_cons.1 hv with rfl | hv
    · exact h.own c (by simp)
    · exact h.own v (by simp [hv])
  · have := h.apart
    rw [List.pairwise_cons] at this ⊢
    exact ⟨fun v hv => this.1 v hv, this.2⟩
end
section
variable {B : Nat} {w : World} {x : Sls} {s : St} {hs : List AV}
theorem SHas.mem0 {g : Nat} {c : Con} {t : List Con} (h : SHas B w x s hs) (hg : x.ca = some ⟨g, 0, none⟩) (e : s.cs = c :: t) (v : Int) : (∃ arr, Blk w g arr 72 ∧ 3 < arr.size ∧ B ≤ g) ∧ SHas B (w.setCell ⟨g, 3, none⟩ (.int .i64 v)) x ⟨s.qs, s.clock, s.epoch, s.next, s.serial, s.apps, s.ms, ⟨c.id, c.app, c.node, v, c.cpu⟩ :: t⟩ hs := by
  have hn : 0 < x.cl := by have := h.c.1.1; rw [e] at this; simp at this; omega
  obtain ⟨g', M, e', hB, hc, hM⟩ := own_blk h.c.2 hn
  obtain rfl : g = g' := by rw [hg] at e'; cases e'; rfl
  have hm : Mks (fun k => k = g) w (w.setCell ⟨g, 3, none⟩ (.int .i64 v)) := Mks.one _ w g 3 _ rfl
  have hC := h.c
  rw [e, hg] at hC
  obtain ⟨arr, ha, hz⟩ := hc
  refine ⟨⟨arr, ha, by omega, hB⟩, h.q.off hm (off_cel ⟨arr, ha, hz⟩ (by decide)), h.p.off hm (off_cel ⟨arr, ha, hz⟩ (by decide)), h.k.off hm (off_cel ⟨arr, ha, hz⟩ (by decide)), h.m.off hm (off_cel ⟨arr, ha, hz⟩ (by decide)), ?_, h.cap, (h.rm.mks hm).mono (Nat.le_refl _) hm.size⟩
  rw [hg]
  exact (hC.mem0 ⟨arr, ha, hz⟩ v).2
theorem SHas.seen0 {g : Nat} {c : Mac} {t : List Mac} (h : SHas B w x s hs) (hg : x.ma = some ⟨g, 0, none⟩) (e : s.ms = c :: t) (v : Int) : (∃ arr, Blk w g arr 56 ∧ 3 < arr.size ∧ B ≤ g) ∧ SHas B (w.setCell ⟨g, 3, none⟩ (.int .i64 v)) x ⟨s.qs, s.clock, s.epoch, s.next, s.serial, s.apps, ⟨c.name, c.mem, c.cpu, v⟩ :: t, s.cs⟩ hs := by
  have hn : 0 < x.ml := by have := h.m.1.1; rw [e] at this; simp at this; omega
  obtain ⟨g', M, e', hB, hc, hM⟩ := own_blk h.m.2 hn
  obtain rfl : g = g' := by rw [hg] at e'; cases e'; rfl
  have hm : Mks (fun k => k = g) w (w.setCell ⟨g, 3, none⟩ (.int .i64 v)) := Mks.one _ w g 3 _ rfl
  have hC := h.m
  rw [e, hg] at hC
  obtain ⟨arr, ha, hz⟩ := hc
  refine ⟨⟨arr, ha, by omega, hB⟩, h.q.off hm (off_cel ⟨arr, ha, hz⟩ (by decide)), h.p.off hm (off_cel ⟨arr, ha, hz⟩ (by decide)), h.k.off hm (off_cel ⟨arr, ha, hz⟩ (by decide)), ?_, h.c.off hm (off_cel ⟨arr, ha, hz⟩ (by decide)), h.cap, (h.rm.mks hm).mono (Nat.le_refl _) hm.size⟩
  rw [hg]
  exact (hC.seen0 ⟨arr, ha, hz⟩ v).2
theorem SHas.queue0 {g : Nat} {c : AV} {t : List AV} {a : Appl} {l : List Appl} (h : SHas B w x s (c :: t)) (hg : x.aa = some ⟨g, 0, none⟩) (e : s.apps = a :: l) (v : List UInt8) : (∃ arr, Blk w g arr 41 ∧ 1 < arr.size ∧ B ≤ g) ∧ SHas B (w.setCell ⟨g, 1, none⟩ (.string (bs v))) x ⟨s.qs, s.clock, s.epoch, s.next, s.serial, ⟨a.id, v, a.asks⟩ :: l, s.ms, s.cs⟩ (⟨c.id, v, c.ao, c.len, c.cap⟩ :: t) := by
  have hn : 0 < x.al := by have := h.p.1.1; simp at this; omega
  obtain ⟨g', M, e', hB, hc, hM⟩ := own_blk h.p.2 hn
  obtain rfl : g = g' := by rw [hg] at e'; cases e'; rfl
  have hm : Mks (fun k => k = g) w (w.setCell ⟨g, 1, none⟩ (.string (bs v))) := Mks.one _ w g 1 _ rfl
  have hC := h.p
  rw [hg] at hC
  have hK := h.k
  rw [e] at hK
  obtain ⟨arr, ha, hz⟩ := hc
  have hrm := (h.rm.mks hm).mono (Nat.le_refl B) hm.size
  refine ⟨⟨arr, ha, by omega, hB⟩, h.q.off hm (off_cel ⟨arr, ha, hz⟩ (by decide)), ?_, (hK.off hm (off_cel ⟨arr, ha, hz⟩ (by decide))).queue0 v, h.m.off hm (off_cel ⟨arr, ha, hz⟩ (by decide)), h.c.off hm (off_cel ⟨arr, ha, hz⟩ (by decide)), h.cap, hrm.1, hrm.2.1, hrm.2.2.1, hrm.2.2.2.1, fun z hz' => ?_⟩
  · rw [hg]
    exact (hC.queue0 ⟨arr, ha, hz⟩ v).2
  · rcases List.mem_cons.1 hz' with rfl | hz'
    · exact hrm.2.2.2.2 c (by simp)
    · exact hrm.2.2.2.2 z (by simp [hz'])
end
/-- what a drawn state is to its users: right as memory, small, its lists behind the cursor -/
structure DrS (g : Nat) (w : World) (y : Sls) (s : St) (hs : List AV) : Prop where
  q : QRow w y.qa y.ql s.qs
  qg : ∀ k, inR y.qa y.ql k → g < k
  p : PHas (g + 1) w y.aa y.al hs
  k : KHas (g + 1) w hs s.apps
  m : MHas (g + 1) w y.ma y.ml s.ms
  c : CHas (g + 1) w y.ca y.cl s.cs
  cap : y.ql ≤ y.qc
  sm : SSome y hs
  fit : FitSt s
  wf : WfSt s
section
variable {g : Nat} {w w' : World} {y : Sls} {s : St} {hs : List AV}
theorem DrS.row (h : DrS g w y s hs) : SRow w y s := ⟨h.q, appl_of h.p.1 h.k.heads, h.m.1, h.c.1⟩
theorem DrS.av (h : DrS g w y s hs) : AVRow w y.aa y.al hs := h.p.1
theorem DrS.hd (h : DrS g w y s hs) : Heads w hs s.apps := h.k.heads
theorem DrS.below (h : DrS g w y s hs) (hb : Below w.heap.size w w') : DrS g w' y s hs := ⟨h.q.below hb, h.qg, h.p.below hb, h.k.below hb, h.m.below hb, h.c.below hb, h.cap, h.sm, h.fit, h.wf⟩
theorem DrS.cur {ao : Option Addr} {len cap : Nat} (h : DrS g w y s hs) (hc : Cur w g ao len cap) (hc' : Cur w' g ao len cap) (hg : w.grownBy w' (some g)) : DrS g w' y s hs := by
  have hm := cur_mks hc hc' hg
  have ho := off_low (w := w) (B := g + 1) (g := g) (Nat.lt_succ_self g)
  exact ⟨h.q.mks hm (fun k hk e => by have := h.qg k hk; omega), h.qg, h.p.off hm ho.p, h.k.off hm ho.a, h.m.off hm ho.m, h.c.off hm ho.c, h.cap, h.sm, h.fit, h.wf⟩
theorem DrS.of {B : Nat} (h : SHas B w y s hs) (hB : g < B) (hf : FitSt s) (hw : WfSt s) : DrS g w y s hs :=
  ⟨h.q.1, fun k hk => by have := (h.q.2.lies k hk).1; omega, (h.p.base hB), h.k.base hB, h.m.base hB, h.c.base hB, h.cap.q, h.ans.some, hf, hw⟩
end
/-- what stands while a state is spoilt -/
structure DT (w : World) (B g : Nat) (ao : Option Addr) (len cap : Nat) (b : Nat) (arr : Array Value) (wr : World) : Prop where
  c : CSt w B g ao len cap wr
  gl : g < w.heap.size
  x : Blk wr b arr 29
  bl : w.heap.size < b
  r : Blk wr w.heap.size zero8 29
section
variable {w wr wy : World} {B g : Nat} {ao : Option Addr} {len cap : Nat} {b : Nat} {arr : Array Value}
theorem DT.below (h : DT w B g ao len cap b arr wr) (hb : Below wr.heap.size wr wy) : DT w B g ao len cap b arr wy := ⟨h.c.below hb, h.gl, h.x.below hb, h.bl, h.r.below hb⟩
theorem DT.mks {S : Nat → Prop} (h : DT w B g ao len cap b arr wr) (hm : Mks S wr wy) (hS : ∀ k, S k → w.heap.size ≤ k ∧ ∃ t N, Cel wr t k N ∧ t ≠ 29) : DT w B g ao len cap b arr wy := by
  have hx : ∀ {k : Nat} {a : Array Value}, Blk wr k a 29 → ¬ S k := fun hk e => let ⟨_, t, N, h1, h2⟩ := hS _ e; h2 (h1.type ⟨_, hk, rfl⟩)
  exact ⟨h.c.mks hm (fun k e => ⟨(hS k e).1, Nat.lt_of_lt_of_le h.gl (hS k e).1⟩), h.gl, hm.blk h.x (hx h.x), h.bl, hm.blk h.r (hx h.r)⟩
theorem DT.cur (h : DT w B g ao len cap b arr wr) (hc : Cur wy g ao len cap) (hg : wr.grownBy wy (some g)) : DT w B g ao len cap b arr wy := by
  have hm := cur_mks h.c.1 hc hg
  have h1 := h.gl; have h2 := h.bl
  exact ⟨h.c.step hc hg, h.gl, hm.blk h.x (by omega), h.bl, hm.blk h.r (by omega)⟩
theorem DT.off (h : DT w B g ao len cap b arr wr) (hc : Cur wy g ao len cap) (hg : wr.grownBy wy (some g)) {x : Sls} {s : St} {hs : List AV} (H : SHas w.heap.size wr x s hs) : SHas w.heap.size wy x s hs := H.off (cur_mks h.c.1 hc hg) (off_low h.gl)
theorem DT.set (h : DT w B g ao len cap b arr wr) (j : Nat) (v : Value) : DT w B g ao len cap b (arr.setIfInBounds j v) (wr.setCell ⟨b, j, none⟩ v) := by
  have hm : Mks (fun k => k = b) wr (wr.setCell ⟨b, j, none⟩ v) := Mks.one _ wr b j v rfl
  have h1 := h.gl; have h2 := h.bl
  exact ⟨h.c.mks hm (fun k e => by subst e; omega), h.gl, h.x.set j v, h.bl, hm.blk h.r (by omega)⟩
theorem DT.setH (h : DT w B g ao len cap b arr wr) (j : Nat) (v : Value) {x : Sls} {s : St} {hs : List AV} (H : SHas w.heap.size wr x s hs) : SHas w.heap.size (wr.setCell ⟨b, j, none⟩ v) x s hs :=
  H.off (Mks.one (fun k => k = b) wr b j v rfl) (off_blk h.x (by decide) (by decide) (by decide) (by decide) (by decide))
end
end Go.Proofs.YtcplnodfcchdhaaGreat
