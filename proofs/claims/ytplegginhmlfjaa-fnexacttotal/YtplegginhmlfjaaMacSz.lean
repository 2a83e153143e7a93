/-
  The laws' own szMachine and szMachineS: how much is handed in; walks over the dump (mkrow.py wrote this).
-/
import Derived.Test.YtplegginhmlfjaaMacV
namespace Go.Proofs.Ytplegginhmlfjaa
open Go.RowKit
set_option linter.unusedVariables false

def szMac (q : Mac) (a : Int) : Int := if a - q.name.length < 0 then -1 else a - q.name.length
/-- not too much -/
def FitMac (l : List Mac) : Prop := l.length ≤ 1048576 ∧ ∀ q ∈ l, q.name.length ≤ 1048576

set_option maxRecDepth 100000 in
set_option maxHeartbeats 1000000 in
theorem szMachine_any (q : Mac) (a : Int) (w : World) (ha0 : 0 ≤ a) (ha1 : a ≤ 1048576) (hn : q.name.length ≤ 9223372036854775807) :
    Calls Try.prog 71 #[macv q, .int .i64 a] w fun e w' => e = .returned (.int .i64 (szMac q a)) ∧ Below w.heap.size w w' := by
  obtain ⟨x0, x1, x2, x3⟩ := q
  have z1 := bs_size x0
  simp only at hn
  unfold szMac
  simp only
  by_cases h1 : a - x0.length < 0
  · rw [if_pos h1]
    go_enter Try.func71, Try.ntmps71
    go_wp2
    go_ret
    refine ⟨rfl, ?_⟩
    repeat (first | exact Below.refl _ _ | refine below_al ?_ _ | refine Below.drew ?_ | refine below_sc ?_ _ _ _ (by omega))
  · rw [if_neg h1]
    go_enter Try.func71, Try.ntmps71
    go_wp2
    go_ret
    refine ⟨rfl, ?_⟩
    repeat (first | exact Below.refl _ _ | refine below_al ?_ _ | refine Below.drew ?_ | refine below_sc ?_ _ _ _ (by omega))
theorem szMac_cases (q : Mac) (a : Int) (ha0 : 0 ≤ a) (ha1 : a ≤ 1048576) : szMac q a = -1 ∨ (0 ≤ szMac q a ∧ szMac q a ≤ a ∧ q.name.length ≤ 1048576) := by
  unfold szMac
  split
  · exact .inl rfl
  · right; omega

set_option maxRecDepth 100000 in
set_option maxHeartbeats 1000000 in
theorem szMachineS_any (ao : Option Addr) (len cap : Nat) (l : List Mac) (a0 : Int) (w : World) (h : MacRow w ao len l) (hlen : len ≤ 9223372036854775807) (hm : ∀ q ∈ l, q.name.length ≤ 9223372036854775807) (hA0 : 0 ≤ a0) (hA1 : a0 ≤ 1048576) :
    Calls Try.prog 29 #[.slice ao len cap, .int .i64 a0] w fun e w' => ∃ r : Int, e = .returned (.int .i64 r) ∧ (r = -1 ∨ (0 ≤ r ∧ r ≤ a0 ∧ FitMac l)) ∧ Below w.heap.size w w' := by
  have HR := hide h
  have HL := hide h.1
  have HM := hide hm
  clear h hm
  by_cases hbig : (len : Int) ≤ a0
  · have hb1 : ¬ (a0 : Int) - len < 0 := by omega
    go_enter Try.func29, Try.ntmps29
    go_wp2
    go_loopw [1, 5] (fun s i wr => ∃ (k : Nat) (a : Int), k ≤ len ∧ i = .int .i64 k ∧ s = .int .i64 a ∧ 0 ≤ a ∧ a ≤ a0 ∧ Hid (∀ q ∈ l.take k, q.name.length ≤ 1048576) ∧ Hid (Below w.heap.size w wr)) (fun _ i _ => len - (intOf i).toNat)
    case atStart => exact ⟨0, a0 - len, Nat.zero_le _, rfl, rfl, by omega, by omega, hide (by simp), hide (Below.refl _ _)⟩
    case round =>
      obtain ⟨k, a, hk, rfl, rfl, ha0, ha1, HP, HB⟩ := hrel
      by_cases hlt : k < len
      · obtain ⟨b, off, rfl, hq⟩ := ((unhide HR).below (unhide HB)).at hlt
        have hkl : k < l.length := by have := unhide HL; omega
        obtain ⟨c0, c1, c2, c3⟩ := hq hkl
        have n1 := unhide HM l[k] (List.getElem_mem _)
        have htk := List.take_succ_eq_append_getElem hkl
        obtain ⟨q, hs⟩ : ∃ q, l[k] = q := ⟨_, rfl⟩
        rw [hs] at c0 c1 c2 c3 n1 htk
        have HTK := hide htk
        have C := hide (fun wx => szMachine_any q a wx ha0 (by omega) n1)
        obtain ⟨r, hr⟩ : ∃ r, szMac q a = r := ⟨_, rfl⟩
        have hcs := szMac_cases q a ha0 (by omega)
        rw [hr] at C hcs
        have HC := hide hcs
        clear hq hs hkl hr hcs htk n1
        go_wp2_with fail
        refine (unhide C _).mono ?_
        rintro e w1 ⟨rfl, hb⟩
        have HB1 := hide (below_on (unhide HB) hb)
        clear hb C c0 c1 c2 c3
        rcases unhide HC with hr | ⟨r0, r1, r2⟩
        · subst hr
          go_wp2
          go_ret
          exact ⟨-1, rfl, .inl rfl, unhide HB1⟩
        · have HN := hide (show ∀ q ∈ l.take (k + 1), q.name.length ≤ 1048576 by
            rw [unhide HTK]
            intro x hx
            rcases List.mem_append.1 hx with hx | hx
            · exact unhide HP x hx
            · rw [List.mem_singleton.1 hx]; exact r2)
          clear r2 HP HTK HC
          go_wp2
          go_roundw
          case rel => exact ⟨k + 1, r, by omega, by go_num, rfl, by omega, by omega, HN, HB1⟩
          case measure => simp [intOf]; omega
      · have HF := hide (show FitMac l from ⟨by have := unhide HL; omega, fun q hq => unhide HP q (by rw [List.take_of_length_le (by have := unhide HL; omega)]; exact hq)⟩)
        go_wp2
        go_ret
        exact ⟨a, rfl, .inr ⟨ha0, ha1, unhide HF⟩, unhide HB⟩
  · have hb1 : (a0 : Int) - len < 0 := by omega
    go_enter Try.func29, Try.ntmps29
    go_wp2
    go_ret
    exact ⟨-1, rfl, .inl rfl, Below.refl _ _⟩
end Go.Proofs.Ytplegginhmlfjaa
