/-
  What the model's DrawReadRes answers: a text of an amount, or one that is spoilt; a walk over the dump.
-/
import Derived.Test.YtoejklldpceghaaDoorSpoil
import Derived.Test.YtoejklldpceghaaDoorResTextS
namespace Go.Proofs.YtoejklldpceghaaDoor
open Go.RowKit
set_option linter.unusedVariables false

theorem resText_size (a b : Int) (ha : I64 a) (hb : I64 b) : (resText a b).size ≤ 43 := by
  unfold resText
  rw [bs_size, List.length_append, List.length_cons]
  have := Lib.itoa_length_le a ha.1 ha.2
  have := Lib.itoa_length_le b hb.1 hb.2
  omega
set_option maxRecDepth 100000 in
set_option maxHeartbeats 2000000 in
theorem drawReadRes_any (B : Nat) (ao : Option Addr) (len cap : Nat) (w : World) (hcode : Code w B ao len) :
    Calls Tryd.prog 12 #[.slice ao len cap] w fun e w' => ∃ t : ByteArray, e = .returned (.string t) ∧ t.size ≤ 3000 ∧ Below w.heap.size w w' := by
  have HK := hide hcode
  clear hcode
  go_enter Tryd.func12, Tryd.ntmps12
  go_wp2_with fail
  refine (new_st B ao len cap _ (unhide HK)).mono ?_
  rintro e w1 ⟨rfl, hs⟩
  have HS1 := hide hs
  clear hs
  go_wp2_with fail
  refine (l02Res_st _ (unhide HS1)).mono ?_
  rintro e w2 ⟨a, b, rfl, ha, hb, hs, hg⟩
  have HS2 := hide hs
  have hz := resText_size a b ha hb
  clear hs hg
  go_wp2_with fail
  refine (specResText_any _ _ _ ha.1 ha.2 hb.1 hb.2).mono ?_
  rintro e w3 ⟨rfl, hb3⟩
  have HS3 := hide ((unhide HS2).below hb3)
  clear hb3
  go_wp2_with fail
  refine (spoil_st _ _ (unhide HS3) (by omega)).mono ?_
  rintro e w4 ⟨t, rfl, ht, hs⟩
  have HB := hide (hs.done (Nat.le_refl _))
  clear hs
  go_wp2
  go_ret
  exact ⟨t, rfl, by omega, unhide HB⟩
end Go.Proofs.YtoejklldpceghaaDoor
