/-
  Rows that stand while another grows.
-/
import Derived.Test.YtdkgmfogeabaoaaGreatPackE
import Derived.Test.YtdkgmfogeabaoaaGreatCopySt
namespace Go.Proofs.YtdkgmfogeabaoaaGreat
open Go.RowKit
set_option linter.unusedVariables false

theorem cellEq {w w' : World} {b p : Nat} {u : Value} (h : w.cell? ⟨b, p, none⟩ = some u) (hb : w'.heap[b]? = w.heap[b]?) : w'.cell? ⟨b, p, none⟩ = some u := (World.cell?_of_block (w := w) (a := ⟨b, p, none⟩) hb).trans h
theorem QRow.kept {w w' : World} {ao : Option Addr} {len : Nat} {l : List Q} (h : QRow w ao len l) (hs : ∀ k, inR ao len k → w'.heap[k]? = w.heap[k]?) : QRow w' ao len l := by
  obtain ⟨h1, h2⟩ := h
  refine ⟨h1, ?_⟩
  rcases h2 with h2 | ⟨b, off, h3, h4⟩
  · exact .inl h2
  · by_cases hz : len = 0
    · exact .inl hz
    · have hb := hs b ⟨hz, off, h3⟩
      exact .inr ⟨b, off, h3, fun i h => let ⟨a, c, d, e⟩ := h4 i h; ⟨cellEq a hb, cellEq c hb, cellEq d hb, cellEq e hb⟩⟩
theorem MacRow.kept {w w' : World} {ao : Option Addr} {len : Nat} {l : List Mac} (h : MacRow w ao len l) (hs : ∀ k, inR ao len k → w'.heap[k]? = w.heap[k]?) : MacRow w' ao len l := by
  obtain ⟨h1, h2⟩ := h
  refine ⟨h1, ?_⟩
  rcases h2 with h2 | ⟨b, off, h3, h4⟩
  · exact .inl h2
  · by_cases hz : len = 0
    · exact .inl hz
    · have hb := hs b ⟨hz, off, h3⟩
      exact .inr ⟨b, off, h3, fun i h => let ⟨a, c, d, e⟩ := h4 i h; ⟨cellEq a hb, cellEq c hb, cellEq d hb, cellEq e hb⟩⟩
theorem ConRow.kept {w w' : World} {ao : Option Addr} {len : Nat} {l : List Con} (h : ConRow w ao len l) (hs : ∀ k, inR ao len k → w'.heap[k]? = w.heap[k]?) : ConRow w' ao len l := by
  obtain ⟨h1, h2⟩ := h
  refine ⟨h1, ?_⟩
  rcases h2 with h2 | ⟨b, off, h3, h4⟩
  · exact .inl h2
  · by_cases hz : len = 0
    · exact .inl hz
    · have hb := hs b ⟨hz, off, h3⟩
      exact .inr ⟨b, off, h3, fun i h => let ⟨a, c, d, e, f⟩ := h4 i h; ⟨cellEq a hb, cellEq c hb, cellEq d hb, cellEq e hb, cellEq f hb⟩⟩
theorem AskRow.kept {w w' : World} {ao : Option Addr} {len : Nat} {l : List Ask} (h : AskRow w ao len l) (hs : ∀ k, inR ao len k → w'.heap[k]? = w.heap[k]?) : AskRow w' ao len l := by
  obtain ⟨h1, h2⟩ := h
  refine ⟨h1, ?_⟩
  rcases h2 with h2 | ⟨b, off, h3, h4⟩
  · exact .inl h2
  · by_cases hz : len = 0
    · exact .inl hz
    · have hb := hs b ⟨hz, off, h3⟩
      exact .inr ⟨b, off, h3, fun i h => let ⟨a, c, d, e, f⟩ := h4 i h; ⟨cellEq a hb, cellEq c hb, cellEq d hb, cellEq e hb, cellEq f hb⟩⟩
theorem AVRow.kept {w w' : World} {ao : Option Addr} {len : Nat} {l : List AV} (h : AVRow w ao len l) (hs : ∀ k, inR ao len k → w'.heap[k]? = w.heap[k]?) : AVRow w' ao len l := by
  obtain ⟨h1, h2⟩ := h
  refine ⟨h1, ?_⟩
  rcases h2 with h2 | ⟨b, off, h3, h4⟩
  · exact .inl h2
  · by_cases hz : len = 0
    · exact .inl hz
    · have hb := hs b ⟨hz, off, h3⟩
      exact .inr ⟨b, off, h3, fun i h => let ⟨a, c, d⟩ := h4 i h; ⟨cellEq a hb, cellEq c hb, cellEq d hb⟩⟩

/-- a row grows: those of other types stand -/
theorem own_grown {B : Nat} {w w' : World} {t t' : TypeId} {sz n : Nat} {ao : Option Addr} {r : Option Nat} (h : Own1 B w.heap.size w t sz ao n) (hg : w.grownBy w' r) (hr : ∀ k, r = some k → ∃ N, Cel w t' k N) (ht : t' ≠ t) : (∀ k, inR ao n k → w'.heap[k]? = w.heap[k]?) ∧ Own1 B w'.heap.size w' t sz ao n := by
  have key : ∀ k, inR ao n k → w'.heap[k]? = w.heap[k]? := fun k hk => by
    obtain ⟨_, h2, N, h3⟩ := h.lies k hk
    refine hg.block k h2 (fun e => ?_)
    obtain ⟨N', h4⟩ := hr k e.symm
    exact ht (h4.type h3)
  refine ⟨key, ?_⟩
  rcases h with e | ⟨g, M, e, h1, h2, h3, h4⟩
  · exact .inl e
  · by_cases hz : n = 0
    · exact .inl hz
    · exact .inr ⟨g, M, e, h1, Nat.lt_of_lt_of_le h2 hg.size, h3.of_block (key g ⟨hz, 0, e⟩), h4⟩
theorem QHas.grown {B n : Nat} {w w' : World} {t' : TypeId} {ao : Option Addr} {l : List Q} {r : Option Nat} (h : QHas B w ao n l) (hg : w.grownBy w' r) (hr : ∀ k, r = some k → ∃ N, Cel w t' k N) (ht : t' ≠ 99) : QHas B w' ao n l := ⟨h.1.kept (own_grown h.2 hg hr ht).1, (own_grown h.2 hg hr ht).2⟩
theorem MHas.grown {B n : Nat} {w w' : World} {t' : TypeId} {ao : Option Addr} {l : List Mac} {r : Option Nat} (h : MHas B w ao n l) (hg : w.grownBy w' r) (hr : ∀ k, r = some k → ∃ N, Cel w t' k N) (ht : t' ≠ 103) : MHas B w' ao n l := ⟨h.1.kept (own_grown h.2 hg hr ht).1, (own_grown h.2 hg hr ht).2⟩
theorem CHas.grown {B n : Nat} {w w' : World} {t' : TypeId} {ao : Option Addr} {l : List Con} {r : Option Nat} (h : CHas B w ao n l) (hg : w.grownBy w' r) (hr : ∀ k, r = some k → ∃ N, Cel w t' k N) (ht : t' ≠ 61) : CHas B w' ao n l := ⟨h.1.kept (own_grown h.2 hg hr ht).1, (own_grown h.2 hg hr ht).2⟩
theorem PHas.grown {B n : Nat} {w w' : World} {t' : TypeId} {ao : Option Addr} {l : List AV} {r : Option Nat} (h : PHas B w ao n l) (hg : w.grownBy w' r) (hr : ∀ k, r = some k → ∃ N, Cel w t' k N) (ht : t' ≠ 95) : PHas B w' ao n l := ⟨h.1.kept (own_grown h.2 hg hr ht).1, (own_grown h.2 hg hr ht).2⟩
theorem KHas.grown {B : Nat} {w w' : World} {t' : TypeId} {hs : List AV} {l : List Appl} {r : Option Nat} (h : KHas B w hs l) (hg : w.grownBy w' r) (hr : ∀ k, r = some k → ∃ N, Cel w t' k N) (ht : t' ≠ 144) : KHas B w' hs l :=
  ⟨⟨h.heads.1, fun i h1 h2 => let ⟨a, b, c, d⟩ := h.heads.2 i h1 h2; ⟨a, b, c.kept (own_grown (h.own _ (List.getElem_mem h1)) hg hr ht).1, d⟩⟩, fun v hv => (own_grown (h.own v hv) hg hr ht).2, h.apart⟩
/-- the block of a row that is owned is a row of that type -/
theorem owns_cel {w : World} {B sz n : Nat} {e : TypeId} {v : Value} {xs : List Value} (h : w.ownsRow B e sz v n xs) : ∀ k, v.ownBlock = some k → ∃ N, Cel w e k N := fun k hk => by
  rcases h.2 with ⟨rfl, _⟩ | ⟨g, cap, cur, rfl, _, h2, _⟩
  · simp [Value.ownBlock] at hk
  · obtain rfl : g = k := by simpa [Value.ownBlock] using hk
    exact ⟨_, cur, h2, rfl⟩
theorem Blk.grown {w w' : World} {g : Nat} {arr : Array Value} {t t' : TypeId} {r : Option Nat} (h : Blk w g arr t) (hg : w.grownBy w' r) (hr : ∀ k, r = some k → ∃ N, Cel w t' k N) (ht : t' ≠ t) : Blk w' g arr t :=
  (hg.block g h.lt (fun e => by obtain ⟨N, h4⟩ := hr g e.symm; exact ht (h4.type ⟨arr, h, rfl⟩))).trans h
theorem grown_sc (w : World) (g j : Nat) (v : Value) : w.grownBy (w.setCell ⟨g, j, none⟩ v) (some g) := ⟨rfl, rfl, rfl, by simp [World.setCell], fun k _ hne => Below.heap_setCell _ _ _ _ (by show k ≠ g; intro e; exact hne (by rw [e]))⟩
theorem grown_al (w : World) (o : Obj) : w.grownBy (w.alloc o) none := World.grownBy_alloc w _ _
/-- lists that are there, if empty -/
structure SSome (x : Sls) (hs : List AV) : Prop where
  q : ∃ ad, x.qa = some ad
  a : ∃ ad, x.aa = some ad
  m : ∃ ad, x.ma = some ad
  c : ∃ ad, x.ca = some ad
  k : ∀ v ∈ hs, ∃ ad, v.ao = some ad
end Go.Proofs.YtdkgmfogeabaoaaGreat
