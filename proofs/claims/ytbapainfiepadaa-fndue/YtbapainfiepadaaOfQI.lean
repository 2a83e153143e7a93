/-
  What is due to a queue of a total, and the most that it may have: what the program's DueOf and MostOf answer; walks over the dump.
-/
import Derived.Test.YtbapainfiepadaaPartI
namespace Go.Proofs.Ytbapainfiepadaa
open Go.RowKit
set_option linter.unusedVariables false

set_option maxRecDepth 100000 in
set_option maxHeartbeats 1000000 in
theorem dueFn_any (w : World) (q : Q) :
    Calls Try.prog 35 #[qv q] w fun e w' => e = .returned (.int .i64 (fieldOf false q)) ∧ Below w.heap.size w w' := by
  go_enter Try.func35, Try.ntmps35
  go_wp2
  go_ret
  exact ⟨rfl, below_al (Below.refl _ _) _⟩
set_option maxRecDepth 100000 in
set_option maxHeartbeats 1000000 in
theorem mostFn_any (w : World) (q : Q) :
    Calls Try.prog 36 #[qv q] w fun e w' => e = .returned (.int .i64 (fieldOf true q)) ∧ Below w.heap.size w w' := by
  go_enter Try.func36, Try.ntmps36
  go_wp2
  go_ret
  exact ⟨rfl, below_al (Below.refl _ _) _⟩

set_option maxRecDepth 100000 in
set_option maxHeartbeats 1000000 in
theorem implDueOf_any (ao : Option Addr) (len cap : Nat) (l : List Q) (nm : List UInt8) (a b : Int) (w : World) (h : QRow w ao len l) (hl : len ≤ 1048576) (hn : ∀ q ∈ l, q.name.length ≤ 1048576) (hc : len ≤ cap) :
    Calls Try.prog 11 #[.slice ao len cap, .string (bs nm), rv a b] w fun e w' => e = .returned (rv (ofR l nm a b false).1 (ofR l nm a b false).2) ∧ Below w.heap.size w w' := by
  have hmf : ∀ (fn : Fn) (first cap : Array Value) (w : World), (Instr.makeFunc fn first cap).run Try.prog w = .ok (.func fn first cap) w := fun _ _ _ _ => rfl
  have HB0 := hide (below_al (below_al (Below.refl _ w) (.cells #[.int .i64 a, .int .i64 b] 26)) (.cells #[.int .i64 0, .int .i64 0] 26))
  have HV2 := hide (var_new2 w 26 26 a b 0 0)
  have C := hide (partOf_any 35 (enters_of Try.func35 (by kernel_rfl) rfl) false (fun wx q => dueFn_any wx q) ao len cap l nm a b _ (h.below (unhide HB0)) hl hn hc)
  obtain ⟨⟨x, y⟩, hxy⟩ : ∃ p, ofR l nm a b false = p := ⟨_, rfl⟩
  rw [hxy] at C ⊢
  clear hxy h hn
  go_enter Try.func11, Try.ntmps11
  go_wp2_with fail
  refine (unhide C).mono ?_
  rintro e w1 ⟨rfl, hb⟩
  have V2 := (unhide HV2).below hb
  have k0 := V2.c0
  have k1 := V2.c1
  have k2 := V2.f 0
  have k3 := V2.f 1
  have k4 := V2.s0 (.int .i64 x)
  have k5 := V2.s1 (.int .i64 x) (.int .i64 y)
  have HB := hide (below_on (unhide HB0) hb)
  clear hb V2 HV2 HB0 C
  go_wp2
  refine bodyPost_ret (v := rv x y) (by simp [results, Try.results11, go_sem, k4, k5]) rfl ⟨rfl, ?_⟩
  repeat (first | exact unhide HB | refine below_al ?_ _ | refine Below.drew ?_ | refine below_sc ?_ _ _ _ (by omega))

set_option maxRecDepth 100000 in
set_option maxHeartbeats 1000000 in
theorem implMostOf_any (ao : Option Addr) (len cap : Nat) (l : List Q) (nm : List UInt8) (a b : Int) (w : World) (h : QRow w ao len l) (hl : len ≤ 1048576) (hn : ∀ q ∈ l, q.name.length ≤ 1048576) (hc : len ≤ cap) :
    Calls Try.prog 12 #[.slice ao len cap, .string (bs nm), rv a b] w fun e w' => e = .returned (rv (ofR l nm a b true).1 (ofR l nm a b true).2) ∧ Below w.heap.size w w' := by
  have hmf : ∀ (fn : Fn) (first cap : Array Value) (w : World), (Instr.makeFunc fn first cap).run Try.prog w = .ok (.func fn first cap) w := fun _ _ _ _ => rfl
  have HB0 := hide (below_al (below_al (Below.refl _ w) (.cells #[.int .i64 a, .int .i64 b] 26)) (.cells #[.int .i64 0, .int .i64 0] 26))
  have HV2 := hide (var_new2 w 26 26 a b 0 0)
  have C := hide (partOf_any 36 (enters_of Try.func36 (by kernel_rfl) rfl) true (fun wx q => mostFn_any wx q) ao len cap l nm a b _ (h.below (unhide HB0)) hl hn hc)
  obtain ⟨⟨x, y⟩, hxy⟩ : ∃ p, ofR l nm a b true = p := ⟨_, rfl⟩
  rw [hxy] at C ⊢
  clear hxy h hn
  go_enter Try.func12, Try.ntmps12
  go_wp2_with fail
  refine (unhide C).mono ?_
  rintro e w1 ⟨rfl, hb⟩
  have V2 := (unhide HV2).below hb
  have k0 := V2.c0
  have k1 := V2.c1
  have k2 := V2.f 0
  have k3 := V2.f 1
  have k4 := V2.s0 (.int .i64 x)
  have k5 := V2.s1 (.int .i64 x) (.int .i64 y)
  have HB := hide (below_on (unhide HB0) hb)
  clear hb V2 HV2 HB0 C
  go_wp2
  refine bodyPost_ret (v := rv x y) (by simp [results, Try.results12, go_sem, k4, k5]) rfl ⟨rfl, ?_⟩
  repeat (first | exact unhide HB | refine below_al ?_ _ | refine Below.drew ?_ | refine below_sc ?_ _ _ _ (by omega))
end Go.Proofs.Ytbapainfiepadaa
