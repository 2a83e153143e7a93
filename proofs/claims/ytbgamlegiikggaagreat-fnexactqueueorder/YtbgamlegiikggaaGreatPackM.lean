/-
  Several texts of this claim in one: OfQD, WithinI (pack.py put them together); each says in its own remark what is proved.
-/
import Derived.Test.YtbgamlegiikggaaGreatPartI
import Derived.Test.YtbgamlegiikggaaGreatPackF
import Derived.Test.YtbgamlegiikggaaGreatPackD
/-
  What is due to a queue of a total, and the most that it may have: what the program's DueOf and DueOf answer; walks over the dump.
-/
namespace Go.Proofs.YtbgamlegiikggaaGreat
open Go.RowKit
set_option linter.unusedVariables false

set_option maxRecDepth 100000 in
set_option maxHeartbeats 1000000 in
theorem dueFn_any (w : World) (q : Q) :
    Calls Tryz.prog 87 #[qv q] w fun e w' => e = .returned (.int .i64 (fieldOf false q)) ∧ Below w.heap.size w w' := by
  go_enter Tryz.func87, Tryz.ntmps87
  go_wp2
  go_ret
  exact ⟨rfl, below_al (Below.refl _ _) _⟩

set_option maxRecDepth 100000 in
set_option maxHeartbeats 1000000 in
theorem implDueOf_any (ao : Option Addr) (len cap : Nat) (l : List Q) (nm : List UInt8) (a b : Int) (w : World) (h : QRow w ao len l) (hl : len ≤ 1048576) (hn : ∀ q ∈ l, q.name.length ≤ 1048576) (hc : len ≤ cap) :
    Calls Tryz.prog 47 #[.slice ao len cap, .string (bs nm), rv a b] w fun e w' => e = .returned (rv (ofR l nm a b false).1 (ofR l nm a b false).2) ∧ Below w.heap.size w w' := by
  have hmf : ∀ (fn : Fn) (first cap : Array Value) (w : World), (Instr.makeFunc fn first cap).run Tryz.prog w = .ok (.func fn first cap) w := fun _ _ _ _ => rfl
  have HB0 := hide (below_al (below_al (Below.refl _ w) (.cells #[.int .i64 a, .int .i64 b] 64)) (.cells #[.int .i64 0, .int .i64 0] 64))
  have HV2 := hide (var_new2 w 64 64 a b 0 0)
  have C := hide (partOf_any 87 (enters_of Tryz.func87 (by kernel_rfl) rfl) false (fun wx q => dueFn_any wx q) ao len cap l nm a b _ (h.below (unhide HB0)) hl hn hc)
  obtain ⟨⟨x, y⟩, hxy⟩ : ∃ p, ofR l nm a b false = p := ⟨_, rfl⟩
  rw [hxy] at C ⊢
  clear hxy h hn
  go_enter Tryz.func47, Tryz.ntmps47
  go_wp2_with fail
  refine (unhide C).mono ?_
  rintro e w1 ⟨rfl, hb⟩
  have V2 := (unhide HV2).below hb
  have k0 := V2.c0
  have k1 := V2.c1
  have k2 := V2.f 0
  have k3 := V2.f 1
  have k4 := V2.s0 (.int .i64 x)
  have k5 := V2.s1 (.int .i64 x) (.int .i64 y)
  have HB := hide (below_on (unhide HB0) hb)
  clear hb V2 HV2 HB0 C
  go_wp2
  refine bodyPost_ret (v := rv x y) (by simp [results, Tryz.results47, go_sem, k4, k5]) rfl ⟨rfl, ?_⟩
  repeat (first | exact unhide HB | refine below_al ?_ _ | refine Below.drew ?_ | refine below_sc ?_ _ _ _ (by omega))
end Go.Proofs.YtbgamlegiikggaaGreat

/-
  Whether one amount is within another: what the program's Within answers; a walk over the dump.
-/
namespace Go.Proofs.YtbgamlegiikggaaGreat
open Go.RowKit
set_option linter.unusedVariables false

set_option maxRecDepth 100000 in
set_option maxHeartbeats 1000000 in
theorem implWithin_any (a b c d : Int) (w : World) :
    Calls Tryz.prog 50 #[rv a b, rv c d] w fun e w' => e = .returned (.bool (within a b c d)) ∧ Below w.heap.size w w' := by
  have HV1 := hide ((var_new w 64 a b).al (.cells #[.int .i64 c, .int .i64 d] 64))
  have HV2 := hide (var_new2 w 64 64 a b c d)
  have HB0 := hide (below_al (below_al (Below.refl _ w) (.cells #[.int .i64 a, .int .i64 b] 64)) (.cells #[.int .i64 c, .int .i64 d] 64))
  have hc := hide (pairOk_any a b c d)
  cases h0 : resOk a b && resOk c d
  · rw [show within a b c d = false by rw [within, h0]; rfl]
    go_enter Tryz.func50, Tryz.ntmps50
    go_wp2_with fail
    refine (unhide hc _).mono ?_
    rw [h0]
    rintro e w1 ⟨rfl, hb⟩
    have V1 := (unhide HV1).below hb
    have V2 := (unhide HV2).below hb
    have a1 := V1.c0
    have a2 := V1.c1
    have a3 := V2.c0
    have a4 := V2.c1
    have HB := hide (below_on (unhide HB0) hb)
    clear hb HV1 HV2 HB0 V1 V2 hc
    go_wp2
    go_ret
    exact ⟨rfl, unhide HB⟩
  · by_cases h3 : a ≤ c
    · by_cases h4 : b ≤ d
      · rw [show within a b c d = true by rw [within, h0]; simp [h3, h4]]
        go_enter Tryz.func50, Tryz.ntmps50
        go_wp2_with fail
        refine (unhide hc _).mono ?_
        rw [h0]
        rintro e w1 ⟨rfl, hb⟩
        have V1 := (unhide HV1).below hb
        have V2 := (unhide HV2).below hb
        have a1 := V1.c0
        have a2 := V1.c1
        have a3 := V2.c0
        have a4 := V2.c1
        have HB := hide (below_on (unhide HB0) hb)
        clear hb HV1 HV2 HB0 V1 V2 hc
        go_wp2
        go_ret
        exact ⟨rfl, unhide HB⟩
      · rw [show within a b c d = false by rw [within, h0]; simp [h4]]
        go_enter Tryz.func50, Tryz.ntmps50
        go_wp2_with fail
        refine (unhide hc _).mono ?_
        rw [h0]
        rintro e w1 ⟨rfl, hb⟩
        have V1 := (unhide HV1).below hb
        have V2 := (unhide HV2).below hb
        have a1 := V1.c0
        have a2 := V1.c1
        have a3 := V2.c0
        have a4 := V2.c1
        have HB := hide (below_on (unhide HB0) hb)
        clear hb HV1 HV2 HB0 V1 V2 hc
        go_wp2
        go_ret
        exact ⟨ret_bool (decide_eq_false (by omega)), unhide HB⟩
    · rw [show within a b c d = false by rw [within, h0]; simp [h3]]
      go_enter Tryz.func50, Tryz.ntmps50
      go_wp2_with fail
      refine (unhide hc _).mono ?_
      rw [h0]
      rintro e w1 ⟨rfl, hb⟩
      have V1 := (unhide HV1).below hb
      have V2 := (unhide HV2).below hb
      have a1 := V1.c0
      have a2 := V1.c1
      have a3 := V2.c0
      have a4 := V2.c1
      have HB := hide (below_on (unhide HB0) hb)
      clear hb HV1 HV2 HB0 V1 V2 hc
      go_wp2
      go_ret
      exact ⟨rfl, unhide HB⟩
end Go.Proofs.YtbgamlegiikggaaGreat
