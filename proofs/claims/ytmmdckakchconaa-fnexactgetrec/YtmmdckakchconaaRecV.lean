/-
  Records: values; which are right, by both sides; walks over the dump.
-/
import Derived.Test.YtmmdckakchconaaKeptV
import Derived.Test.YtmmdckakchconaaTxtM
import Derived.Test.YtmmdckakchconaaName
import Derived.Test.YtmmdckakchconaaCountI
import Derived.ProofKit
import Derived.OpenShut
import Derived.ChangeSame
import Derived.Deep.Slices
namespace Go.Proofs.Ytmmdckakchconaa
open Go.ChangeShapes Go.WideShapes Go.ChangeAt Go.RowKit Go.Deep
set_option linter.unusedVariables false
structure Rc where
  kind : Int
  app : Int
  queue : List UInt8
abbrev rcv (r : Rc) : Value := .agg #[.int .i64 r.kind, .int .i64 r.app, .string (bs r.queue)]
def recOk (r : Rc) : Bool :=
  if r.kind = 0 then inB r.app 1 1000000000 && nameOk r.queue
  else if r.kind = 1 then inB r.app 1 1000000000 && decide (r.queue = [])
  else if r.kind = 2 then decide (r.app = 0) && decide (r.queue = [])
  else false
theorem recOk_bd {r : Rc} (h : recOk r = true) : 0 ≤ r.kind ∧ r.kind ≤ 2 ∧ 0 ≤ r.app ∧ r.app ≤ 1000000000 ∧ r.queue.length ≤ 10 := by
  obtain ⟨k, a, q⟩ := r
  unfold recOk at h
  simp only at h ⊢
  split at h
  · simp only [inB, nameOk, Bool.and_eq_true, decide_eq_true_eq] at h; omega
  split at h
  · simp only [inB, Bool.and_eq_true, decide_eq_true_eq] at h; obtain ⟨h1, rfl⟩ := h; simp; omega
  split at h
  · simp only [Bool.and_eq_true, decide_eq_true_eq] at h; obtain ⟨h1, rfl⟩ := h; simp; omega
  · exact absurd h (by simp)

set_option maxRecDepth 100000 in
set_option maxHeartbeats 4000000 in
theorem specRecOk_any (r : Rc) (w : World) (hq : r.queue.length ≤ 1048576) :
    Calls Try.prog 27 #[rcv r] w fun e w' => e = .returned (.bool (recOk r)) ∧ Below w.heap.size w w' := by
  obtain ⟨k, a, q⟩ := r
  simp only at hq
  have hbe := bs_empty q
  obtain ⟨i1, hi1⟩ : ∃ b, inB a 1 1000000000 = b := ⟨_, rfl⟩
  obtain ⟨n1, hn1⟩ : ∃ b, nameOk q = b := ⟨_, rfl⟩
  have C1 := hide (fun wx => by have := l01In_any a 1 1000000000 wx; rw [hi1] at this; exact this)
  have C2 := hide (fun wx => by have := specNameOk_any (bs q) wx (by rw [bs_size]; exact hq); rw [show nameOk (bs q).data.toList = n1 from hn1] at this; exact this)
  have K0 := hide (blk_new w #[.int .i64 k, .int .i64 a, .string (bs q)] 23)
  have HB0 := hide (below_al (Below.refl _ w) (.cells #[.int .i64 k, .int .i64 a, .string (bs q)] 23))
  by_cases h0 : k = 0
  · subst h0
    have HR : recOk ⟨0, a, q⟩ = (i1 && n1) := by simp [recOk, hi1, hn1]
    rw [HR]
    clear hi1 hn1 HR
    cases i1
    · go_enter Try.func27, Try.ntmps27
      go_wp2_with fail
      refine (unhide C1 _).mono ?_
      rintro e w1 ⟨rfl, rfl⟩
      go_wp2
      go_ret
      exact ⟨rfl, unhide HB0⟩
    · go_enter Try.func27, Try.ntmps27
      go_wp2_with fail
      refine (unhide C1 _).mono ?_
      rintro e w1 ⟨rfl, rfl⟩
      go_wp2_with fail
      refine (unhide C2 _).mono ?_
      rintro e w2 ⟨rfl, rfl⟩
      go_wp2
      go_ret
      exact ⟨by simp, unhide HB0⟩
  by_cases h1 : k = 1
  · subst h1
    obtain ⟨z, hz⟩ : ∃ b, decide (q = []) = b := ⟨_, rfl⟩
    rw [hz] at hbe
    have HR : recOk ⟨1, a, q⟩ = (i1 && z) := by simp only [recOk, hi1, hz]; rfl
    rw [HR]
    clear hi1 hn1 HR hz
    cases i1 <;> cases z
    all_goals
      go_enter Try.func27, Try.ntmps27
      go_wp2_with fail
      refine (unhide C1 _).mono ?_
      rintro e w1 ⟨rfl, rfl⟩
      go_wp2
      go_ret
      exact ⟨rfl, unhide HB0⟩
  by_cases h2 : k = 2
  · subst h2
    obtain ⟨z, hz⟩ : ∃ b, decide (q = []) = b := ⟨_, rfl⟩
    rw [hz] at hbe
    by_cases ha : a = 0
    · subst ha
      have HR : recOk ⟨2, 0, q⟩ = z := by simp only [recOk, hz]; rfl
      rw [HR]
      clear hi1 hn1 HR hz
      cases z
      all_goals
        go_enter Try.func27, Try.ntmps27
        go_wp2
        go_ret
        exact ⟨rfl, unhide HB0⟩
    · have HR : recOk ⟨2, a, q⟩ = false := by simp [recOk, ha]
      rw [HR]
      clear hi1 hn1 HR hz
      go_enter Try.func27, Try.ntmps27
      go_wp2
      go_ret
      exact ⟨rfl, unhide HB0⟩
  have HR : recOk ⟨k, a, q⟩ = false := by simp [recOk, h0, h1, h2]
  rw [HR]
  clear hi1 hn1 HR
  go_enter Try.func27, Try.ntmps27
  go_wp2
  go_ret
  exact ⟨rfl, unhide HB0⟩

set_option maxRecDepth 100000 in
set_option maxHeartbeats 4000000 in
theorem implRecOk_any (r : Rc) (w : World) (hq : r.queue.length ≤ 1048576) :
    Calls Try.prog 32 #[rcv r] w fun e w' => e = .returned (.bool (recOk r)) ∧ Below w.heap.size w w' := by
  obtain ⟨k, a, q⟩ := r
  simp only at hq
  have hbe := bs_empty q
  obtain ⟨i1, hi1⟩ : ∃ b, inB a 1 1000000000 = b := ⟨_, rfl⟩
  obtain ⟨n1, hn1⟩ : ∃ b, nameOk q = b := ⟨_, rfl⟩
  have C1 := hide (fun wx => by have := countOk_any a wx; rw [hi1] at this; exact this)
  have C2 := hide (fun wx => by have := implNameOk_any (bs q) wx (by rw [bs_size]; exact hq); rw [show nameOk (bs q).data.toList = n1 from hn1] at this; exact this)
  have K0 := hide (blk_new w #[.int .i64 k, .int .i64 a, .string (bs q)] 23)
  have HB0 := hide (below_al (Below.refl _ w) (.cells #[.int .i64 k, .int .i64 a, .string (bs q)] 23))
  by_cases h0 : k = 0
  · subst h0
    have HR : recOk ⟨0, a, q⟩ = (i1 && n1) := by simp [recOk, hi1, hn1]
    rw [HR]
    clear hi1 hn1 HR
    cases i1
    · go_enter Try.func32, Try.ntmps32
      go_wp2_with fail
      refine (unhide C1 _).mono ?_
      rintro e w1 ⟨rfl, rfl⟩
      go_wp2
      go_ret
      exact ⟨rfl, unhide HB0⟩
    · go_enter Try.func32, Try.ntmps32
      go_wp2_with fail
      refine (unhide C1 _).mono ?_
      rintro e w1 ⟨rfl, rfl⟩
      go_wp2_with fail
      refine (unhide C2 _).mono ?_
      rintro e w2 ⟨rfl, rfl⟩
      go_wp2
      go_ret
      exact ⟨by simp, unhide HB0⟩
  by_cases h1 : k = 1
  · subst h1
    obtain ⟨z, hz⟩ : ∃ b, decide (q = []) = b := ⟨_, rfl⟩
    rw [hz] at hbe
    have HR : recOk ⟨1, a, q⟩ = (i1 && z) := by simp only [recOk, hi1, hz]; rfl
    rw [HR]
    clear hi1 hn1 HR hz
    cases i1 <;> cases z
    all_goals
      go_enter Try.func32, Try.ntmps32
      go_wp2_with fail
      refine (unhide C1 _).mono ?_
      rintro e w1 ⟨rfl, rfl⟩
      go_wp2
      go_ret
      exact ⟨rfl, unhide HB0⟩
  by_cases h2 : k = 2
  · subst h2
    obtain ⟨z, hz⟩ : ∃ b, decide (q = []) = b := ⟨_, rfl⟩
    rw [hz] at hbe
    by_cases ha : a = 0
    · subst ha
      have HR : recOk ⟨2, 0, q⟩ = z := by simp only [recOk, hz]; rfl
      rw [HR]
      clear hi1 hn1 HR hz
      cases z
      all_goals
        go_enter Try.func32, Try.ntmps32
        go_wp2
        go_ret
        exact ⟨rfl, unhide HB0⟩
    · have HR : recOk ⟨2, a, q⟩ = false := by simp [recOk, ha]
      rw [HR]
      clear hi1 hn1 HR hz
      go_enter Try.func32, Try.ntmps32
      go_wp2
      go_ret
      exact ⟨rfl, unhide HB0⟩
  have HR : recOk ⟨k, a, q⟩ = false := by simp [recOk, h0, h1, h2]
  rw [HR]
  clear hi1 hn1 HR
  go_enter Try.func32, Try.ntmps32
  go_wp2
  go_ret
  exact ⟨rfl, unhide HB0⟩

end Go.Proofs.Ytmmdckakchconaa
