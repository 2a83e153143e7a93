/-
  A text spoilt: what the model's l01Spoil answers at a cursor; a walk over the dump.
-/
import Derived.Test.YtebaejokhpdbkaaGreatDoorPackA
import Derived.Deep.RegionWith
namespace Go.Proofs.YtebaejokhpdbkaaGreatDoor
open Go.RowKit
set_option linter.unusedVariables false

theorem PickT.drew {w : World} {q L : Nat} (h : PickT w q L) : PickT w.drew q L := h
set_option maxRecDepth 100000 in
set_option maxHeartbeats 2000000 in
theorem spoil_st {w0 : World} {B g : Nat} {ao : Option Addr} {len cap : Nat} (s : ByteArray) (w : World) (h : St w0 B g ao len cap w) (hsz : s.size ≤ 3000) :
    Calls Tryz.prog 24 #[.pointer (some ⟨g, 0, none⟩), .string s] w fun e w' => ∃ t : ByteArray, e = .returned (.string t) ∧ t.size ≤ s.size + 12 ∧ St w0 B g ao len cap w' := by
  have HS := hide h
  clear h
  go_enter Tryz.func24, Tryz.ntmps24
  go_wp2_with fail
  refine (below_st _ _ (unhide HS) (by omega) (by omega)).mono ?_
  rintro e w1 ⟨i, rfl, hi0, hi1, hs, hg⟩
  obtain ⟨I, rfl⟩ := Int.eq_ofNat_of_zero_le hi0
  have HS1 := hide hs
  clear hs hg HS
  go_wp2_with fail
  refine (below_st 8 _ (unhide HS1) (by decide) (by decide)).mono ?_
  rintro e w2 ⟨z, rfl, hz0, hz1, hs, hg⟩
  have HS2 := hide hs
  clear hs hg HS1
  have hle : I ≤ s.size := by omega
  have hs1 : ∀ wx : World, (Instr.slice 9 (.string s) none (some (.int .i64 (I : Int))) none).run Tryz.prog wx = .ok (.string (s.extract 0 I)) wx := fun wx => by
    have := run_slice_string_to_if (P := Tryz.prog) wx 9 s .i64 (I : Int) Tryz.underlying9
    rw [this, if_pos (by omega), show ((I : Int)).toNat = I from by omega]
  have hs2 : ∀ wx : World, (Instr.slice 9 (.string s) (some (.int .i64 (I : Int))) none none).run Tryz.prog wx = .ok (.string (s.extract I s.size)) wx := fun wx => by
    have := run_slice_string_from_if (P := Tryz.prog) wx 9 s .i64 (I : Int) Tryz.underlying9
    rw [this, if_pos (by omega), show ((I : Int)).toNat = I from by omega]
  have z1 : (s.extract 0 I).size = I := by rw [ByteArray.size_extract]; omega
  have z2 : (s.extract I s.size).size = s.size - I := by rw [ByteArray.size_extract]; omega
  obtain ⟨t1, ht1⟩ : ∃ t, t = s.extract 0 I := ⟨_, rfl⟩
  obtain ⟨t2, ht2⟩ : ∃ t, t = s.extract I s.size := ⟨_, rfl⟩
  rw [← ht1] at z1
  rw [← ht2] at z2
  simp only [← ht1] at hs1
  simp only [← ht2] at hs2
  clear ht1 ht2
  by_cases c0 : z = 0
  · subst c0
    go_wp2
    go_ret
    exact ⟨t1, rfl, by omega, unhide HS2⟩
  · by_cases c1 : z = 1
    · subst c1
      have hq := hide (pickt_alloc w2 9 [⟨#[32]⟩, ⟨#[48]⟩, ⟨#[120]⟩, ⟨#[10]⟩, ⟨#[128]⟩, ⟨#[57]⟩] (by decide)).drew
      have hne : Hid (w2.heap.size ≠ g) := hide (by have := (unhide HS2).1.lt; omega)
      have HS3 := hide (((unhide HS2).alloc (.cells #[.string ⟨#[32]⟩, .string ⟨#[48]⟩, .string ⟨#[120]⟩, .string ⟨#[10]⟩, .string ⟨#[128]⟩, .string ⟨#[57]⟩] 9)).below (Below.refl _ _).drew)
      go_wp2_with fail
      go_region_with (go_at_call 39; refine (pickS_st w2.heap.size 6 6 _ (unhide HS3) (unhide hq) (unhide hne) (by decide) (by decide)).mono ?_; rintro e w3 ⟨x, rfl, hx, hs⟩; have n1 : ¬ 9223372036854775807 < t1.size + x.size := (by omega); have n2 : ¬ 9223372036854775807 < t1.size + x.size + t2.size := (by omega); have HX := hide hx; have HS4 := hide hs; clear hs)
      all_goals
        go_wp2
        go_ret
        exact ⟨_, rfl, by simp only [ByteArray.size_append]; have := unhide HX; omega, unhide HS4⟩
    · go_wp2
      go_ret
      exact ⟨s, rfl, by omega, unhide HS2⟩
end Go.Proofs.YtebaejokhpdbkaaGreatDoor
