/-
 The code that a law takes: a slice of bytes that came in.
-/
import Derived.Test.YtbkchepelhkjlaaGreatPackH
import Derived.OpenShut
import Derived.Lib.ItoaMem
namespace Go.Proofs.YtbkchepelhkjlaaGreat
open Go.RowKit
set_option linter.unusedVariables false
/-- nil, or a row of cap cells of which the first len are its elements -/
def IsRow (w : World) (a : Option Addr) (len cap : Nat) (zs : List Int) : Prop :=
 (a = none ∧ len = 0 ∧ cap = 0 ∧ zs = []) ∨
 ∃ x, a = some x ∧ len ≤ cap ∧ cap ≤ maxLen ∧ zs.length = cap ∧ (∀ i, i < zs.length → w.cell? (x.add i) = some (.int .u8 (zs.getD i 0))) ∧ ∀ n ∈ zs, (Lit.int .u8 n).wf = true
theorem IsRow.len {w : World} {a : Option Addr} {len cap : Nat} {zs : List Int} (h : IsRow w a len cap zs) : len ≤ 9223372036854775807 := by
 rcases h with ⟨_, h0, _⟩ | ⟨x, rfl, h1, h2, _⟩
 ·omega
 ·unfold maxLen at h2; omega
theorem code_of {w : World} {a : Option Addr} {len cap : Nat} {zs : List Int} (h : IsRow w a len cap zs) (hl : len ≤ 1048576) : Code w w.heap.size a len := by
 refine ⟨Nat.le_refl _, hl, ?_⟩
 rcases h with ⟨_, h0, _⟩ | ⟨x, rfl, h1, h2, h3, h4, h5⟩
 ·exact .inl h0
 ·by_cases h0 : len = 0
  ·exact .inl h0
  ·refine .inr ?_
   obtain ⟨b, off, spot⟩ := x
   have hc0 := h4 0 (by omega)
   have hspot : spot = none := by simpa [Addr.add] using World.cell?_spot hc0
   subst hspot
   rw [Lib.add_plain] at hc0
   refine ⟨b, off, fun j => (zs.getD j 0), rfl, cell_lt hc0, fun j hj => ?_, fun j => ?_⟩
   ·have := h4 j (by omega)
    rw [Lib.add_plain] at this
    exact this
   ·by_cases hj : j < zs.length
    ·have hw := h5 zs[j] (List.getElem_mem hj)
     have hb := bounds_u8 hw
     simp only [List.getD_eq_getElem?_getD, List.getElem?_eq_getElem hj, Option.getD_some]
     omega
    ·simp only [List.getD_eq_getElem?_getD, List.getElem?_eq_none (Nat.le_of_not_lt hj), Option.getD_none]; omega
def bigB (len : Nat) : Bool := decide (1048576 < (len : Int))
set_option maxHeartbeats 400000 in
theorem big_any (a : Option Addr) (len cap : Nat) (w : World) (h : len ≤ 9223372036854775807) :
  Calls Tryz.prog 5 #[.slice a len cap] w fun e w' => e = .returned (.bool (bigB len)) ∧ w = w' := by
 go_enter Tryz.func5, Tryz.ntmps5
 go_wp2
 go_ret
 exact ⟨rfl, rfl⟩
end Go.Proofs.YtbkchepelhkjlaaGreat
