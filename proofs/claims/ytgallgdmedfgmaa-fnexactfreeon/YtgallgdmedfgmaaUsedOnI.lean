/-
  What is on a machine together, by the program: UsedOn; walks over the dump.
-/
import Derived.Test.YtgallgdmedfgmaaUsedI
import Derived.Test.YtgallgdmedfgmaaPlaceM
namespace Go.Proofs.Ytgallgdmedfgmaa
open Go.RowKit
set_option linter.unusedVariables false

set_option maxRecDepth 100000 in
set_option maxHeartbeats 1000000 in
theorem onFn_any (B : Nat) (nm : List UInt8) (q : Con) (w : World) (hc : w.cell? ⟨B, 0, none⟩ = some (.string (bs nm))) :
    Calls Try.prog 80 #[conv q, .pointer (some ⟨B, 0, none⟩)] w fun e w' => e = .returned (.bool (decide (q.node = nm))) ∧ Below w.heap.size w w' := by
  have hlt := cell_lt hc
  have hc2 : (w.alloc (conobj q)).cell? ⟨B, 0, none⟩ = some (.string (bs nm)) := by rw [World.cell?_alloc_lt _ _ ⟨B, 0, none⟩ hlt]; exact hc
  have hbe := bs_eq q.node nm
  clear hc hlt
  go_enter Try.func80, Try.ntmps80
  go_wp2
  go_ret
  exact ⟨rfl, below_al (Below.refl _ _) _⟩

def onNode (nm : List UInt8) (q : Con) : Bool := decide (q.node = nm)
def usedOnV (s : St) (nm : List UInt8) : Int × Int := ((sumR (usedL (onNode nm) s.cs)).1, (sumR (usedL (onNode nm) s.cs)).2.1)
def onW (w : World) (c : Array Value) (nm : List UInt8) : World := ((w.alloc (.cells c 46)).alloc (.cells #[.string (bs nm)] 9)).alloc (.cells #[.int .i64 0, .int .i64 0] 28)
theorem onW_below (w : World) (c : Array Value) (nm : List UInt8) : Below w.heap.size w (onW w c nm) := below_al (below_al (below_al (Below.refl _ w) _) _) _
theorem onW_cell (w : World) (c : Array Value) (nm : List UInt8) : (onW w c nm).cell? ⟨w.heap.size + 1, 0, none⟩ = some (.string (bs nm)) := by
  have := ((blk_new (w.alloc (.cells c 46)) #[.string (bs nm)] 9).al (.cells #[.int .i64 0, .int .i64 0] 28)).at 0
  rw [al_size] at this
  exact this
theorem onW_var (w : World) (c : Array Value) (nm : List UInt8) : Var (onW w c nm) 28 (w.heap.size + 1 + 1) 0 0 := by
  have := var_new ((w.alloc (.cells c 46)).alloc (.cells #[.string (bs nm)] 9)) 28 0 0
  rwa [al_size, al_size] at this

set_option maxRecDepth 100000 in
set_option maxHeartbeats 2000000 in
theorem implUsedOn_any (x : Sls) (s : St) (nm : List UInt8) (w : World) (h : ConRow w x.ca x.cl s.cs) (hl : x.cl ≤ 1048576) :
    Calls Try.prog 42 #[sv x s, .string (bs nm)] w fun e w' => e = .returned (rv (usedOnV s nm).1 (usedOnV s nm).2) ∧ Below w.heap.size w w' := by
  have hmf : ∀ (fn : Fn) (first cap : Array Value) (w : World), (Instr.makeFunc fn first cap).run Try.prog w = .ok (.func fn first cap) w := fun _ _ _ _ => rfl
  obtain ⟨⟨sx, sy⟩, hs⟩ : ∃ s', usedOnV s nm = s' := ⟨_, rfl⟩
  have h1 := congrArg Prod.fst hs
  have h2 := congrArg Prod.snd hs
  simp only [usedOnV] at h1 h2
  have CU := hide (by
    have := used_any 80 #[.pointer (some ⟨w.heap.size + 1, 0, none⟩)] (enters_of Try.func80 (by kernel_rfl) rfl) (onNode nm) x s (onW w (svc x s) nm) (h.below (onW_below w _ nm)) hl
      (fun wy q hy => onFn_any (w.heap.size + 1) nm q wy ((hy.cell (p := ⟨w.heap.size + 1, 0, none⟩) (cell_lt (onW_cell w _ nm))).trans (onW_cell w _ nm)))
    rw [h1, h2] at this
    exact this)
  rw [hs]
  clear hs h1 h2 h
  obtain ⟨qa, ql, qc, aa, al, ac, ma, ml, mc, ca, cl, cc⟩ := x
  obtain ⟨qs, clock, epoch, next, serial, apps, ms, cs⟩ := s
  go_enter Try.func42, Try.ntmps42
  go_wp2_with fail
  refine (unhide CU).mono ?_
  rintro e w1 ⟨rfl, hb⟩
  have V1 := (onW_var w _ nm).below hb
  have HB1 := hide (below_on (onW_below w _ nm) hb)
  have t0 := V1.c0
  have t1 := V1.c1
  have f0 := V1.f 0
  have f1 := V1.f 1
  have VG := V1.set sx sy
  have k6 := VG.c0
  have k7 := VG.c1
  clear hb V1 VG CU
  go_wp2
  refine bodyPost_ret (v := rv sx sy) (by simp [results, Try.results42, go_sem, k6, k7]) rfl ⟨rfl, ?_⟩
  repeat (first | exact unhide HB1 | refine below_al ?_ _ | refine below_sc ?_ _ _ _ (by omega))
end Go.Proofs.Ytgallgdmedfgmaa
