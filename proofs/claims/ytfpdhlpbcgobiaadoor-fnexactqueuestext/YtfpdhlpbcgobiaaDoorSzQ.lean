/-
  The laws' own szQueue and szQueueS: how much is handed in; walks over the dump.
-/
import Derived.Test.YtfpdhlpbcgobiaaDoorQV
namespace Go.Proofs.YtfpdhlpbcgobiaaDoor
open Go.RowKit
set_option linter.unusedVariables false

def szQ (q : Q) (a : Int) : Int := if a - q.name.length < 0 then -1 else if a - q.name.length - q.parent.length < 0 then -1 else a - q.name.length - q.parent.length
/-- not too much -/
def FitQ (l : List Q) : Prop := l.length ≤ 1048576 ∧ ∀ q ∈ l, q.name.length ≤ 1048576 ∧ q.parent.length ≤ 1048576

set_option maxRecDepth 100000 in
set_option maxHeartbeats 1000000 in
theorem szQueue_any (q : Q) (a : Int) (w : World) (ha0 : 0 ≤ a) (ha1 : a ≤ 1048576) (hn : q.name.length ≤ 9223372036854775807) (hp : q.parent.length ≤ 9223372036854775807) :
    Calls Tryd.prog 33 #[qv q, .int .i64 a] w fun e w' => e = .returned (.int .i64 (szQ q a)) ∧ Below w.heap.size w w' := by
  obtain ⟨nm, pa, du, mo⟩ := q
  have z1 := bs_size nm
  have z2 := bs_size pa
  simp only at hn hp
  unfold szQ
  simp only
  by_cases h1 : a - nm.length < 0
  · rw [if_pos h1]
    go_enter Tryd.func33, Tryd.ntmps33
    go_wp2
    go_ret
    refine ⟨rfl, ?_⟩
    repeat (first | exact Below.refl _ _ | refine below_al ?_ _ | refine Below.drew ?_ | refine below_sc ?_ _ _ _ (by omega))
  · rw [if_neg h1]
    by_cases h2 : a - nm.length - pa.length < 0
    · rw [if_pos h2]
      go_enter Tryd.func33, Tryd.ntmps33
      go_wp2
      go_ret
      refine ⟨rfl, ?_⟩
      repeat (first | exact Below.refl _ _ | refine below_al ?_ _ | refine Below.drew ?_ | refine below_sc ?_ _ _ _ (by omega))
    · rw [if_neg h2]
      go_enter Tryd.func33, Tryd.ntmps33
      go_wp2
      go_ret
      refine ⟨rfl, ?_⟩
      repeat (first | exact Below.refl _ _ | refine below_al ?_ _ | refine Below.drew ?_ | refine below_sc ?_ _ _ _ (by omega))
theorem szQ_cases (q : Q) (a : Int) (ha0 : 0 ≤ a) (ha1 : a ≤ 1048576) : szQ q a = -1 ∨ (0 ≤ szQ q a ∧ szQ q a ≤ a ∧ q.name.length ≤ 1048576 ∧ q.parent.length ≤ 1048576) := by
  unfold szQ
  split
  · exact .inl rfl
  · split
    · exact .inl rfl
    · right; omega

set_option maxRecDepth 100000 in
set_option maxHeartbeats 1000000 in
theorem szQueueS_any (ao : Option Addr) (len cap : Nat) (l : List Q) (w : World) (h : QRow w ao len l) (hlen : len ≤ 9223372036854775807) (hm : ∀ q ∈ l, q.name.length ≤ 9223372036854775807 ∧ q.parent.length ≤ 9223372036854775807) :
    Calls Tryd.prog 11 #[.slice ao len cap, .int .i64 1048576] w fun e w' => ∃ r : Int, e = .returned (.int .i64 r) ∧ (r = -1 ∨ (0 ≤ r ∧ FitQ l)) ∧ Below w.heap.size w w' := by
  have HR := hide h
  have HL := hide h.1
  have HM := hide hm
  clear h hm
  by_cases hbig : len ≤ 1048576
  · have hb1 : ¬ (1048576 : Int) - len < 0 := by omega
    go_enter Tryd.func11, Tryd.ntmps11
    go_wp2
    go_loopw [1, 5] (fun s i wr => ∃ (k : Nat) (a : Int), k ≤ len ∧ i = .int .i64 k ∧ s = .int .i64 a ∧ 0 ≤ a ∧ a ≤ 1048576 ∧ Hid (∀ q ∈ l.take k, q.name.length ≤ 1048576 ∧ q.parent.length ≤ 1048576) ∧ Hid (Below w.heap.size w wr)) (fun _ i _ => len - (intOf i).toNat)
    case atStart => exact ⟨0, (1048576 : Int) - len, Nat.zero_le _, rfl, rfl, by omega, by omega, hide (by simp), hide (Below.refl _ _)⟩
    case round =>
      obtain ⟨k, a, hk, rfl, rfl, ha0, ha1, HP, HB⟩ := hrel
      by_cases hlt : k < len
      · obtain ⟨b, off, rfl, hq⟩ := ((unhide HR).below (unhide HB)).at hlt
        have hkl : k < l.length := by have := unhide HL; omega
        obtain ⟨c0, c1, c2, c3⟩ := hq hkl
        obtain ⟨n1, n2⟩ := unhide HM l[k] (List.getElem_mem _)
        have htk := List.take_succ_eq_append_getElem hkl
        obtain ⟨q, hs⟩ : ∃ q, l[k] = q := ⟨_, rfl⟩
        rw [hs] at c0 c1 c2 c3 n1 n2 htk
        have HTK := hide htk
        have C := hide (fun wx => szQueue_any q a wx ha0 ha1 n1 n2)
        obtain ⟨r, hr⟩ : ∃ r, szQ q a = r := ⟨_, rfl⟩
        have hcs := szQ_cases q a ha0 ha1
        rw [hr] at C hcs
        have HC := hide hcs
        clear hq hs hkl hr hcs htk n1 n2
        go_wp2_with fail
        refine (unhide C _).mono ?_
        rintro e w1 ⟨rfl, hb⟩
        have HB1 := hide (below_on (unhide HB) hb)
        clear hb C c0 c1 c2 c3
        rcases unhide HC with hr | ⟨r0, r1, r2, r3⟩
        · subst hr
          go_wp2
          go_ret
          exact ⟨-1, rfl, .inl rfl, unhide HB1⟩
        · have HN := hide (show ∀ q ∈ l.take (k + 1), q.name.length ≤ 1048576 ∧ q.parent.length ≤ 1048576 by
            rw [unhide HTK]
            intro x hx
            rcases List.mem_append.1 hx with hx | hx
            · exact unhide HP x hx
            · rw [List.mem_singleton.1 hx]; exact ⟨r2, r3⟩)
          clear r2 r3 HP HTK HC
          go_wp2
          go_roundw
          case rel => exact ⟨k + 1, r, by omega, by go_num, rfl, by omega, by omega, HN, HB1⟩
          case measure => simp [intOf]; omega
      · have HF := hide (show FitQ l from ⟨by have := unhide HL; omega, fun q hq => unhide HP q (by rw [List.take_of_length_le (by have := unhide HL; omega)]; exact hq)⟩)
        go_wp2
        go_ret
        exact ⟨a, rfl, .inr ⟨ha0, unhide HF⟩, unhide HB⟩
  · have hb1 : (1048576 : Int) - len < 0 := by omega
    go_enter Tryd.func11, Tryd.ntmps11
    go_wp2
    go_ret
    exact ⟨-1, rfl, .inl rfl, Below.refl _ _⟩
end Go.Proofs.YtfpdhlpbcgobiaaDoor
