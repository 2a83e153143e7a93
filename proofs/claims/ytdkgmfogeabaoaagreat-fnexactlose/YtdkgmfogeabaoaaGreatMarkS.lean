/-
  The laws' own markQueueS, markMachineS, markContS, from any number on; walks over the dump (gm.py wrote this).
-/
import Derived.Test.YtdkgmfogeabaoaaGreatPackB
namespace Go.Proofs.YtdkgmfogeabaoaaGreat
open Go.RowKit
set_option linter.unusedVariables false


set_option maxRecDepth 100000 in
set_option maxHeartbeats 2000000 in
theorem markQueueS_from (g n c : Nat) (k0 : Int) (w : World) (h : Cel w 99 g (c * 4)) (hc : n ≤ c) (hn : n ≤ 1048576) (h0 : 0 < k0) (h1 : k0 ≤ 1000000000000000) :
    Calls Tryz.prog 43 #[.slice (some ⟨g, 0, none⟩) n c, .int .i64 k0] w fun e w' => e = .returned (.int .i64 (k0 + 4 * (n : Int))) ∧ Mkd g (g + 1) w w' := by
  have HQ0 := hide h
  clear h
  go_enter Tryz.func43, Tryz.ntmps43
  go_wp2
  go_loopw [1, 5] (fun s i wr => ∃ (j : Nat) (k : Int), j ≤ n ∧ i = .int .i64 j ∧ s = .int .i64 k ∧ k = k0 + 4 * (j : Int) ∧ Hid (Cel wr 99 g (c * 4)) ∧ Hid (Mkd g (g + 1) w wr)) (fun _ i _ => n - (intOf i).toNat)
  case atStart => exact ⟨0, k0, Nat.zero_le _, rfl, rfl, by omega, HQ0, hide (Mkd.refl _ _ _)⟩
  case round =>
    obtain ⟨j, k, hj, rfl, rfl, hk, HQ, HG⟩ := hrel
    by_cases hlt : j < n
    · have HK := hide hk
      have hk0 : 0 < k := by omega
      have hk1 : k ≤ 1000000010000000 := by omega
      clear hk
      go_wp2_with fail
      refine (markText_int k _ (by omega) (by omega)).mono ?_
      rintro e w1 ⟨rfl, hb⟩
      have HQt0 := hide ((unhide HQ).below hb)
      have HGt0 := hide ((unhide HG).on hb)
      clear hb  HQ HG
      obtain ⟨v0, d0⟩ := (unhide HQt0).cell (j := j * 4) (by omega)
      have f0 := (unhide HQt0).frozen (j * 4)
      have HQs0 := hide ((unhide HQt0).set g (j * 4) (.string (mk k.toNat)))
      have HGs0 := hide ((unhide HGt0).sc g (j * 4) (.string (mk k.toNat)) (Nat.le_refl _) (by omega))
      go_wp2_with fail
      refine (markText_int (k + 1) _ (by omega) (by omega)).mono ?_
      rintro e w2 ⟨rfl, hb⟩
      have HQt1 := hide ((unhide HQs0).below hb)
      have HGt1 := hide ((unhide HGs0).on hb)
      clear hb d0 f0 HQt0 HGt0 HQs0 HGs0
      obtain ⟨v1, d1⟩ := (unhide HQt1).cell (j := j * 4 + 1) (by omega)
      have f1 := (unhide HQt1).frozen (j * 4 + 1)
      have HQs1 := hide ((unhide HQt1).set g (j * 4 + 1) (.string (mk (k + 1).toNat)))
      have HGs1 := hide ((unhide HGt1).sc g (j * 4 + 1) (.string (mk (k + 1).toNat)) (Nat.le_refl _) (by omega))
      obtain ⟨v2, d2⟩ := (unhide HQs1).cell (j := j * 4 + 2) (by omega)
      have f2 := (unhide HQs1).frozen (j * 4 + 2)
      have HQs2 := hide ((unhide HQs1).set g (j * 4 + 2) (.int .i64 (k + 1 + 1)))
      have HGs2 := hide ((unhide HGs1).sc g (j * 4 + 2) (.int .i64 (k + 1 + 1)) (Nat.le_refl _) (by omega))
      obtain ⟨v3, d3⟩ := (unhide HQs2).cell (j := j * 4 + 3) (by omega)
      have f3 := (unhide HQs2).frozen (j * 4 + 3)
      have HQs3 := hide ((unhide HQs2).set g (j * 4 + 3) (.int .i64 (k + 1 + 1 + 1)))
      have HGs3 := hide ((unhide HGs2).sc g (j * 4 + 3) (.int .i64 (k + 1 + 1 + 1)) (Nat.le_refl _) (by omega))
      go_wp2
      go_roundw
      case rel => exact ⟨j + 1, k + 1 + 1 + 1 + 1, by omega, by go_num, by go_num, by have := unhide HK; omega, HQs3, HGs3⟩
      case measure => simp [intOf]; omega
    · have hjn : j = n := by omega
      subst hjn
      go_wp2
      go_ret
      exact ⟨ret_int (by omega), unhide HG⟩

set_option maxRecDepth 100000 in
set_option maxHeartbeats 2000000 in
theorem markMachineS_from (g n c : Nat) (k0 : Int) (w : World) (h : Cel w 103 g (c * 4)) (hc : n ≤ c) (hn : n ≤ 1048576) (h0 : 0 < k0) (h1 : k0 ≤ 1000000000000000) :
    Calls Tryz.prog 45 #[.slice (some ⟨g, 0, none⟩) n c, .int .i64 k0] w fun e w' => e = .returned (.int .i64 (k0 + 4 * (n : Int))) ∧ Mkd g (g + 1) w w' := by
  have HQ0 := hide h
  clear h
  go_enter Tryz.func45, Tryz.ntmps45
  go_wp2
  go_loopw [1, 5] (fun s i wr => ∃ (j : Nat) (k : Int), j ≤ n ∧ i = .int .i64 j ∧ s = .int .i64 k ∧ k = k0 + 4 * (j : Int) ∧ Hid (Cel wr 103 g (c * 4)) ∧ Hid (Mkd g (g + 1) w wr)) (fun _ i _ => n - (intOf i).toNat)
  case atStart => exact ⟨0, k0, Nat.zero_le _, rfl, rfl, by omega, HQ0, hide (Mkd.refl _ _ _)⟩
  case round =>
    obtain ⟨j, k, hj, rfl, rfl, hk, HQ, HG⟩ := hrel
    by_cases hlt : j < n
    · have HK := hide hk
      have hk0 : 0 < k := by omega
      have hk1 : k ≤ 1000000010000000 := by omega
      clear hk
      go_wp2_with fail
      refine (markText_int k _ (by omega) (by omega)).mono ?_
      rintro e w1 ⟨rfl, hb⟩
      have HQt0 := hide ((unhide HQ).below hb)
      have HGt0 := hide ((unhide HG).on hb)
      clear hb  HQ HG
      obtain ⟨v0, d0⟩ := (unhide HQt0).cell (j := j * 4) (by omega)
      have f0 := (unhide HQt0).frozen (j * 4)
      have HQs0 := hide ((unhide HQt0).set g (j * 4) (.string (mk k.toNat)))
      have HGs0 := hide ((unhide HGt0).sc g (j * 4) (.string (mk k.toNat)) (Nat.le_refl _) (by omega))
      obtain ⟨v1, d1⟩ := (unhide HQs0).cell (j := j * 4 + 1) (by omega)
      have f1 := (unhide HQs0).frozen (j * 4 + 1)
      have HQs1 := hide ((unhide HQs0).set g (j * 4 + 1) (.int .i64 (k + 1)))
      have HGs1 := hide ((unhide HGs0).sc g (j * 4 + 1) (.int .i64 (k + 1)) (Nat.le_refl _) (by omega))
      obtain ⟨v2, d2⟩ := (unhide HQs1).cell (j := j * 4 + 2) (by omega)
      have f2 := (unhide HQs1).frozen (j * 4 + 2)
      have HQs2 := hide ((unhide HQs1).set g (j * 4 + 2) (.int .i64 (k + 1 + 1)))
      have HGs2 := hide ((unhide HGs1).sc g (j * 4 + 2) (.int .i64 (k + 1 + 1)) (Nat.le_refl _) (by omega))
      obtain ⟨v3, d3⟩ := (unhide HQs2).cell (j := j * 4 + 3) (by omega)
      have f3 := (unhide HQs2).frozen (j * 4 + 3)
      have HQs3 := hide ((unhide HQs2).set g (j * 4 + 3) (.int .i64 (k + 1 + 1 + 1)))
      have HGs3 := hide ((unhide HGs2).sc g (j * 4 + 3) (.int .i64 (k + 1 + 1 + 1)) (Nat.le_refl _) (by omega))
      go_wp2
      go_roundw
      case rel => exact ⟨j + 1, k + 1 + 1 + 1 + 1, by omega, by go_num, by go_num, by have := unhide HK; omega, HQs3, HGs3⟩
      case measure => simp [intOf]; omega
    · have hjn : j = n := by omega
      subst hjn
      go_wp2
      go_ret
      exact ⟨ret_int (by omega), unhide HG⟩

set_option maxRecDepth 100000 in
set_option maxHeartbeats 2000000 in
theorem markContS_from (g n c : Nat) (k0 : Int) (w : World) (h : Cel w 61 g (c * 5)) (hc : n ≤ c) (hn : n ≤ 1048576) (h0 : 0 < k0) (h1 : k0 ≤ 1000000000000000) :
    Calls Tryz.prog 16 #[.slice (some ⟨g, 0, none⟩) n c, .int .i64 k0] w fun e w' => e = .returned (.int .i64 (k0 + 5 * (n : Int))) ∧ Mkd g (g + 1) w w' := by
  have HQ0 := hide h
  clear h
  go_enter Tryz.func16, Tryz.ntmps16
  go_wp2
  go_loopw [1, 5] (fun s i wr => ∃ (j : Nat) (k : Int), j ≤ n ∧ i = .int .i64 j ∧ s = .int .i64 k ∧ k = k0 + 5 * (j : Int) ∧ Hid (Cel wr 61 g (c * 5)) ∧ Hid (Mkd g (g + 1) w wr)) (fun _ i _ => n - (intOf i).toNat)
  case atStart => exact ⟨0, k0, Nat.zero_le _, rfl, rfl, by omega, HQ0, hide (Mkd.refl _ _ _)⟩
  case round =>
    obtain ⟨j, k, hj, rfl, rfl, hk, HQ, HG⟩ := hrel
    by_cases hlt : j < n
    · have HK := hide hk
      have hk0 : 0 < k := by omega
      have hk1 : k ≤ 1000000010000000 := by omega
      clear hk
      obtain ⟨v0, d0⟩ := (unhide HQ).cell (j := j * 5) (by omega)
      have f0 := (unhide HQ).frozen (j * 5)
      have HQs0 := hide ((unhide HQ).set g (j * 5) (.int .i64 k))
      have HGs0 := hide ((unhide HG).sc g (j * 5) (.int .i64 k) (Nat.le_refl _) (by omega))
      obtain ⟨v1, d1⟩ := (unhide HQs0).cell (j := j * 5 + 1) (by omega)
      have f1 := (unhide HQs0).frozen (j * 5 + 1)
      have HQs1 := hide ((unhide HQs0).set g (j * 5 + 1) (.int .i64 (k + 1)))
      have HGs1 := hide ((unhide HGs0).sc g (j * 5 + 1) (.int .i64 (k + 1)) (Nat.le_refl _) (by omega))
      go_wp2_with fail
      refine (markText_int (k + 1 + 1) _ (by omega) (by omega)).mono ?_
      rintro e w1 ⟨rfl, hb⟩
      have HQt2 := hide ((unhide HQs1).below hb)
      have HGt2 := hide ((unhide HGs1).on hb)
      clear hb d0 f0 HQ HG d1 f1 HQs0 HGs0 HQs1 HGs1
      obtain ⟨v2, d2⟩ := (unhide HQt2).cell (j := j * 5 + 2) (by omega)
      have f2 := (unhide HQt2).frozen (j * 5 + 2)
      have HQs2 := hide ((unhide HQt2).set g (j * 5 + 2) (.string (mk (k + 1 + 1).toNat)))
      have HGs2 := hide ((unhide HGt2).sc g (j * 5 + 2) (.string (mk (k + 1 + 1).toNat)) (Nat.le_refl _) (by omega))
      obtain ⟨v3, d3⟩ := (unhide HQs2).cell (j := j * 5 + 3) (by omega)
      have f3 := (unhide HQs2).frozen (j * 5 + 3)
      have HQs3 := hide ((unhide HQs2).set g (j * 5 + 3) (.int .i64 (k + 1 + 1 + 1)))
      have HGs3 := hide ((unhide HGs2).sc g (j * 5 + 3) (.int .i64 (k + 1 + 1 + 1)) (Nat.le_refl _) (by omega))
      obtain ⟨v4, d4⟩ := (unhide HQs3).cell (j := j * 5 + 4) (by omega)
      have f4 := (unhide HQs3).frozen (j * 5 + 4)
      have HQs4 := hide ((unhide HQs3).set g (j * 5 + 4) (.int .i64 (k + 1 + 1 + 1 + 1)))
      have HGs4 := hide ((unhide HGs3).sc g (j * 5 + 4) (.int .i64 (k + 1 + 1 + 1 + 1)) (Nat.le_refl _) (by omega))
      go_wp2
      go_roundw
      case rel => exact ⟨j + 1, k + 1 + 1 + 1 + 1 + 1, by omega, by go_num, by go_num, by have := unhide HK; omega, HQs4, HGs4⟩
      case measure => simp [intOf]; omega
    · have hjn : j = n := by omega
      subst hjn
      go_wp2
      go_ret
      exact ⟨ret_int (by omega), unhide HG⟩
end Go.Proofs.YtdkgmfogeabaoaaGreat
