/-
 Rows that have the room that their slices say: a list of them, and what calls and stores leave of it.
-/
import Derived.Test.YtbkchepelhkjlaaGreatPackE
namespace Go.Proofs.YtbkchepelhkjlaaGreat
open Go.RowKit
set_option linter.unusedVariables false
/-- rows that have room -/
def RmL (B : Nat) (w : World) (l : List (TypeId × Nat × Option Addr × Nat)) : Prop := ∀ p ∈ l, Own1 B w.heap.size w p.1 p.2.1 p.2.2.1 p.2.2.2
theorem RmL.nil (B : Nat) (w : World) : RmL B w [] := fun p hp => absurd hp (by simp)
theorem RmL.cons {B : Nat} {w : World} {l : List (TypeId × Nat × Option Addr × Nat)} {t : TypeId} {sz c : Nat} {ao : Option Addr} (h : Own1 B w.heap.size w t sz ao c) (hl : RmL B w l) : RmL B w ((t, sz, ao, c) :: l) := fun p hp => by
 rcases List.mem_cons.1 hp with rfl | hp
 ·exact h
 ·exact hl p hp
theorem RmL.sub {B : Nat} {w : World} {l l' : List (TypeId × Nat × Option Addr × Nat)} (h : RmL B w l) (hs : ∀ p ∈ l', p ∈ l) : RmL B w l' := fun p hp => h p (hs p hp)
theorem RmL.below {B : Nat} {w w' : World} {l : List (TypeId × Nat × Option Addr × Nat)} (h : RmL B w l) (hb : Below w.heap.size w w') : RmL B w' l := fun p hp => ((h p hp).below hb).mono (Nat.le_refl _) hb.size
theorem own1_sc {B : Nat} {w : World} {t : TypeId} {sz n : Nat} {ao : Option Addr} (h : Own1 B w.heap.size w t sz ao n) (k j : Nat) (v : Value) : Own1 B (w.setCell ⟨k, j, none⟩ v).heap.size (w.setCell ⟨k, j, none⟩ v) t sz ao n := (h.sc k j v).mono (Nat.le_refl _) (by rw [set_size]; exact Nat.le_refl _)
theorem RmL.sc {B : Nat} {w : World} {l : List (TypeId × Nat × Option Addr × Nat)} (h : RmL B w l) (k j : Nat) (v : Value) : RmL B (w.setCell ⟨k, j, none⟩ v) l := fun p hp => own1_sc (h p hp) k j v
theorem RmL.grown {B : Nat} {w w' : World} {l : List (TypeId × Nat × Option Addr × Nat)} {t' : TypeId} {r : Option Nat} (h : RmL B w l) (hg : w.grownBy w' r) (hr : ∀ k, r = some k → ∃ N, Cel w t' k N) (ht : ∀ p ∈ l, t' ≠ p.1) : RmL B w' l := fun p hp => by
 rcases h p hp with e | ⟨g, M, e, h1, h2, h3, h4⟩
 ·exact .inl e
 ·refine .inr ⟨g, M, e, h1, Nat.lt_of_lt_of_le h2 hg.size, h3.of_block (hg.block g h2 (fun e2 => ?_)), h4⟩
  obtain ⟨N, hc⟩ := hr g e2.symm
  exact ht p hp (hc.type h3)
/-- the rows of a copy in the making, but its applications -/
def RL4 (co : Option Addr) (cd : Nat) (mo : Option Addr) (md : Nat) (qo : Option Addr) (qd : Nat) (ns : List AV) : List (TypeId × Nat × Option Addr × Nat) := (70, 5, co, cd) :: (56, 4, mo, md) :: (59, 4, qo, qd) :: ns.map (fun v => (106, 5, v.ao, v.cap))
theorem rl4_snoc (co : Option Addr) (cd : Nat) (mo : Option Addr) (md : Nat) (qo : Option Addr) (qd : Nat) (ns : List AV) (v : AV) : ∀ p ∈ RL4 co cd mo md qo qd (ns ++ [v]), p ∈ (106, 5, v.ao, v.cap) :: RL4 co cd mo md qo qd ns := fun p hp => by
 simp only [RL4, List.map_append, List.map_cons, List.map_nil, List.mem_cons, List.mem_append, List.not_mem_nil, or_false] at hp ⊢
 rcases hp with h | h | h | h | h <;> simp [h]
theorem rl4_app (co : Option Addr) (cd : Nat) (mo : Option Addr) (md : Nat) (qo : Option Addr) (qd : Nat) (ns : List AV) : ∀ p ∈ RL4 co cd mo md qo qd ns, 41 ≠ p.1 := fun p hp => by
 simp only [RL4, List.mem_cons, List.mem_map] at hp
 rcases hp with rfl | rfl | rfl | ⟨v, _, rfl⟩ <;> (simp only; decide)
theorem rms_of {B : Nat} {w : World} {x : Sls} {hs : List AV} (h : RmL B w (RL4 x.ca x.cc x.ma x.mc x.qa x.qc hs)) (ha : Own1 B w.heap.size w 41 3 x.aa x.ac) : RmS B w.heap.size w x hs :=
 ⟨h (59, 4, x.qa, x.qc) (by simp [RL4]), ha, h (56, 4, x.ma, x.mc) (by simp [RL4]), h (70, 5, x.ca, x.cc) (by simp [RL4]), fun v hv => h (106, 5, v.ao, v.cap) (by simp only [RL4, List.mem_cons, List.mem_map]; exact .inr (.inr (.inr ⟨v, hv, rfl⟩)))⟩
end Go.Proofs.YtbkchepelhkjlaaGreat
