/-
  What FnQueues draws: queues and a name, a text, queues; walks over the dump.
-/
import Derived.Test.YtebaejokhpdbkaaGreatDoorPackB
import Derived.Test.YtebaejokhpdbkaaGreatDoorQTextS
import Derived.Test.YtebaejokhpdbkaaGreatDoorSpoilP
namespace Go.Proofs.YtebaejokhpdbkaaGreatDoor
open Go.RowKit
set_option linter.unusedVariables false
set_option linter.unusedSimpArgs false

set_option maxRecDepth 100000 in
set_option maxHeartbeats 2000000 in
theorem drawPath_any (B : Nat) (ao : Option Addr) (len cap : Nat) (w : World) (hcode : Code w B ao len) :
    Calls Tryz.prog 5 #[.slice ao len cap] w fun e w' => ∃ qb n c ls nm, e = .returned (.tuple #[.slice (some ⟨qb, 0, none⟩) n c, .string (bs nm)]) ∧ Hid (Asked w w' qb n c ls nm) := by
  have HC := hide hcode
  clear hcode
  go_enter Tryz.func5, Tryz.ntmps5
  go_wp2_with fail
  refine (asked_any B ao len cap _ (unhide HC)).mono ?_
  rintro e w1 ⟨qb, n, c, ls, nm, a, b, rfl, HA⟩
  go_wp2
  go_ret2
  have h := unhide HA
  exact ⟨qb, n, c, ls, nm, rfl, hide ⟨h.1.below (below_al (Below.refl _ w1) _), h.2.1, h.2.2.1, h.2.2.2.1, h.2.2.2.2.1, h.2.2.2.2.2.1, below_al h.2.2.2.2.2.2.1 _, h.2.2.2.2.2.2.2⟩⟩

set_option maxRecDepth 100000 in
set_option maxHeartbeats 2000000 in
theorem drawQueuesText_any (B : Nat) (ao : Option Addr) (len cap : Nat) (w : World) (hcode : Code w B ao len) :
    Calls Tryz.prog 10 #[.slice ao len cap] w fun e w' => ∃ qb n c ls, e = .returned (.slice (some ⟨qb, 0, none⟩) n c) ∧ Hid (QRow w' (some ⟨qb, 0, none⟩) n ls ∧ n ≤ c ∧ n ≤ 1000 ∧ Brief ls ∧ Below w.heap.size w w') := by
  have HK := hide hcode
  clear hcode
  go_enter Tryz.func10, Tryz.ntmps10
  go_wp2_with fail
  refine (new_st B ao len cap _ (unhide HK)).mono ?_
  rintro e w1 ⟨rfl, hs⟩
  have HS1 := hide hs
  clear hs
  go_wp2_with fail
  refine (queues_st _ (unhide HS1)).mono ?_
  rintro e w2 ⟨qb, n, c, ls, rfl, HQ, _, hnc, hn, HBr, HS2⟩
  have HB := hide ((unhide HS2).done (Nat.le_refl _))
  clear HS2
  go_wp2
  go_ret
  exact ⟨qb, n, c, ls, rfl, hide ⟨unhide HQ, hnc, hn, unhide HBr, unhide HB⟩⟩

theorem qtext_len (l : List Q) : (qtext l).length ≤ 1320 := by
  unfold qtext
  split
  · rename_i h
    have h1 := textL_len h l.length (Nat.le_refl _)
    have h2 := ok_len h
    rw [List.take_length] at h1
    omega
  · simp
set_option maxRecDepth 100000 in
set_option maxHeartbeats 2000000 in
theorem drawReadQueues_any (B : Nat) (ao : Option Addr) (len cap : Nat) (w : World) (hcode : Code w B ao len) :
    Calls Tryz.prog 7 #[.slice ao len cap] w fun e w' => ∃ t : ByteArray, e = .returned (.string t) ∧ t.size ≤ 3000 ∧ Below w.heap.size w w' := by
  have HK := hide hcode
  clear hcode
  go_enter Tryz.func7, Tryz.ntmps7
  go_wp2_with fail
  refine (new_st B ao len cap _ (unhide HK)).mono ?_
  rintro e w1 ⟨rfl, hs⟩
  have HS1 := hide hs
  clear hs
  go_wp2_with fail
  refine (queues_st _ (unhide HS1)).mono ?_
  rintro e w2 ⟨qb, n, c, ls, rfl, HQ, _, hnc, hn, HBr, HS2⟩
  have hz := qtext_len ls
  have CT := hide (specQueuesText_any (some ⟨qb, 0, none⟩) n c ls w2 (unhide HQ) (by omega) (fun q hq => by have := unhide HBr q hq; omega))
  go_wp2_with fail
  refine (unhide CT).mono ?_
  rintro e w3 ⟨rfl, hb3⟩
  have HS3 := hide ((unhide HS2).below hb3)
  clear hb3 CT
  go_wp2_with fail
  refine (spoil_st _ _ (unhide HS3) (by rw [bs_size]; omega)).mono ?_
  rintro e w4 ⟨t, rfl, ht, hs⟩
  rw [bs_size] at ht
  have HB := hide (hs.done (Nat.le_refl _))
  clear hs
  go_wp2
  go_ret
  exact ⟨t, rfl, by omega, unhide HB⟩
end Go.Proofs.YtebaejokhpdbkaaGreatDoor
