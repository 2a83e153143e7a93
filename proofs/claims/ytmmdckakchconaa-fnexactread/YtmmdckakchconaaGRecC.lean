/-
  The closure that GetRec defers: it recovers what the reader panics with; walks over the dump.
-/
import Derived.Test.YtmmdckakchconaaRdK
import Derived.Test.YtmmdckakchconaaRecL
import Derived.Defers
import Derived.Recover
import Derived.Laws.Pointers
namespace Go.Proofs.Ytmmdckakchconaa
open Go.RowKit
set_option linter.unusedVariables false
set_option linter.unusedSimpArgs false
set_option maxRecDepth 100000 in
set_option maxHeartbeats 1000000 in
theorem failure_yes (bg : Int) (w : World) :
    Calls Try.prog 17 #[.iface 39 (.agg #[.int .i64 bg])] w fun e w' => e = .returned (.tuple #[.agg #[.int .i64 bg], .bool true]) ∧ Below w.heap.size w w' := by
  have hta : ∀ (xt : TypeId) wx, (Instr.typeAssert (.iface 39 (.agg #[.int .i64 bg])) xt 39 true).run Try.prog wx = .ok (.tuple #[.agg #[.int .i64 bg], .bool true]) wx := fun xt wx => by
    simp [Instr.typeAssert, go_sem]
  go_enter Try.func17, Try.ntmps17
  go_wp2
  refine bodyPost_ret (v := .tuple #[.agg #[.int .i64 bg], .bool true]) (by simp [results, Try.results17, go_sem]) rfl ⟨rfl, ?_⟩
  repeat (first | exact Below.refl _ _ | refine below_al ?_ _ | refine Below.drew ?_ | refine below_sc ?_ _ _ _ (by omega))
set_option maxRecDepth 100000 in
set_option maxHeartbeats 1000000 in
theorem failure_no (w : World) :
    Calls Try.prog 17 #[.nilIface] w fun e w' => e = .returned (.tuple #[.agg #[.int .i64 0], .bool false]) ∧ Below w.heap.size w w' := by
  have hta : ∀ (xt : TypeId) wx, (Instr.typeAssert .nilIface xt 39 true).run Try.prog wx = .ok (.tuple #[.agg #[.int .i64 0], .bool false]) wx := fun xt wx => by
    simp [Instr.typeAssert, go_sem]
  go_enter Try.func17, Try.ntmps17
  go_wp2
  refine bodyPost_ret (v := .tuple #[.agg #[.int .i64 0], .bool false]) (by simp [results, Try.results17, go_sem]) rfl ⟨rfl, ?_⟩
  repeat (first | exact Below.refl _ _ | refine below_al ?_ _ | refine Below.drew ?_ | refine below_sc ?_ _ _ _ (by omega))

set_option maxRecDepth 100000 in
set_option maxHeartbeats 1500000 in
theorem catch_panicking (g : Nat) (r : Rc) (b : Bool) (bg : Int) (older : List PanicEntry) (w : World) (h1 : Blk w g #[.int .i64 r.kind, .int .i64 r.app, .string (bs r.queue)] 23) (h2 : Blk w (g + 1) #[.bool b] 4) :
    CallsD Try.prog 16 #[.pointer (some ⟨g, 0, none⟩), .pointer (some ⟨g + 1, 0, none⟩)] (.panicking (perr bg :: older)) w fun e u' w' =>
      e = .returned (.tuple #[]) ∧ u' = .panicking ({ perr bg with recovered := true } :: older) ∧ Blk w' g #[.int .i64 0, .int .i64 0, .string ⟨#[]⟩] 23 ∧ Blk w' (g + 1) #[.bool false] 4 ∧ Below g w w' := by
  have H1 := hide h1
  have H2 := hide h2
  clear h1 h2
  refine callsD_of_wpS Try.func16 rfl fun c₀ cs hu => ?_
  apply wpS_seq
  apply wpS_region
  rw [Try.ntmps16, show ∀ x y : Value, #[x, y] ++ Array.replicate (11 - #[x, y].size) undef = #[x, y, undef, undef, undef, undef, undef, undef, undef, undef, undef] from fun _ _ => rfl]
  simp only [List.size_toArray, List.length_cons, List.length_nil, Nat.zero_add, Nat.reduceAdd, List.range, List.range.loop]
  refine opsS_rec (w' := w) (d := some 5) rfl rfl rfl (by simp [go_sem]) (v := .iface 39 (.agg #[.int .i64 bg])) (cs' := { c₀ with mode := .panicking ({ perr bg with recovered := true } :: older) } :: cs) (by simp [recoverD, hu]) ?_
  simp only [Act.put, List.setIfInBounds_toArray, List.set_cons_zero, List.set_cons_succ]
  refine opsS_call (w' := w) (f := 17) (args := #[.iface 39 (.agg #[.int .i64 bg])]) (d := some 6) rfl rfl rfl (by simp [go_sem]) (failure_yes bg w) ?_
  rintro e w1 ⟨rfl, hb⟩
  refine ⟨_, rfl, ?_⟩
  have HB := hide hb
  have G1 := hide ((unhide H1).below hb)
  have G2 := hide ((unhide H2).below hb)
  clear hb
  simp only [Act.put, List.setIfInBounds_toArray, List.set_cons_zero, List.set_cons_succ]
  refine opsS_val (v := .tuple #[.agg #[.int .i64 bg], .bool true]) (w' := w1) (d := some 4) rfl rfl rfl (by simp [go_sem]) ?_
  simp only [Act.put, List.setIfInBounds_toArray, List.set_cons_zero, List.set_cons_succ]
  refine opsS_val (v := .agg #[.int .i64 bg]) (w' := w1) (d := some 7) rfl rfl rfl (by simp [go_sem]) ?_
  simp only [Act.put, List.setIfInBounds_toArray, List.set_cons_zero, List.set_cons_succ]
  refine opsS_val (v := .bool true) (w' := w1) (d := some 8) rfl rfl rfl (by simp [go_sem]) ?_
  simp only [Act.put, List.setIfInBounds_toArray, List.set_cons_zero, List.set_cons_succ]
  refine opsS_val (v := .pointer (some ⟨w1.heap.size, 0, none⟩)) (w' := w1.alloc (.cells #[.int .i64 0] 39)) (d := some 2) rfl rfl rfl (by simp [go_sem]) ?_
  simp only [Act.put, List.setIfInBounds_toArray, List.set_cons_zero, List.set_cons_succ]
  refine opsS_skip (w' := w1.alloc (.cells #[.int .i64 bg] 39)) (d := none) rfl rfl rfl (by simp [go_sem]) ?_
  simp only [Act.put, List.setIfInBounds_toArray, List.set_cons_zero, List.set_cons_succ]
  refine opsS_val (v := .bool true) (w' := w1.alloc (.cells #[.int .i64 bg] 39)) (d := some 3) rfl rfl rfl (by simp [go_sem]) ?_
  simp only [Act.put, List.setIfInBounds_toArray, List.set_cons_zero, List.set_cons_succ]
  refine opsS_nil ?_
  refine wpS_of_wp ?_
  have k0 := ((unhide G1).al (.cells #[.int .i64 bg] 39)).at 0
  have k1 := ((unhide G1).al (.cells #[.int .i64 bg] 39)).at 1
  have k2 := ((unhide G1).al (.cells #[.int .i64 bg] 39)).at 2
  have f0 := ((unhide G1).al (.cells #[.int .i64 bg] 39)).f 0
  have f1 := ((unhide G1).al (.cells #[.int .i64 bg] 39)).f 1
  have f2 := ((unhide G1).al (.cells #[.int .i64 bg] 39)).f 2
  have p0 := ((unhide G2).al (.cells #[.int .i64 bg] 39)).at 0
  have q0 := ((unhide G2).al (.cells #[.int .i64 bg] 39)).f 0
  have W1 := hide ((unhide G1).al (.cells #[.int .i64 bg] 39))
  have W2 := hide ((unhide G2).al (.cells #[.int .i64 bg] 39))
  have HBL := hide (show Below g w (w1.alloc (.cells #[.int .i64 bg] 39)) from (below_al (unhide HB) _).mono (Nat.le_of_lt (unhide H1).lt))
  simp only [List.getElem?_toArray, List.getElem?_cons_succ, List.getElem?_cons_zero] at k0 k1 k2 p0
  obtain ⟨W, hW⟩ : ∃ W, w1.alloc (.cells #[.int .i64 bg] 39) = W := ⟨_, rfl⟩
  rw [hW] at k0 k1 k2 f0 f1 f2 p0 q0 W1 W2 HBL ⊢
  clear hW HB G1 G2 H1 H2
  go_wp2
  refine ⟨rfl, _, rfl, .tuple #[], by simp [results, Try.results16, go_sem], rfl, rfl, ?_, ?_, ?_⟩
  · have := (((unhide W1).set 0 (.int .i64 0)).set 1 (.int .i64 0)).set 2 (.string ⟨#[]⟩)
    simp at this
    exact this.other (g + 1) 0 (.bool false) (by omega)
  · have := ((((unhide W2).other g 0 (.int .i64 0) (by omega)).other g 1 (.int .i64 0) (by omega)).other g 2 (.string ⟨#[]⟩) (by omega)).set 0 (.bool false)
    simpa using this
  · exact ((((unhide HBL).setCell (Nat.le_refl _) _).setCell (Nat.le_refl _) _).setCell (Nat.le_refl _) _).setCell (Nat.le_succ _) _

set_option maxRecDepth 100000 in
set_option maxHeartbeats 1500000 in
theorem catch_idle (g : Nat) (r : Rc) (b : Bool) (w : World) (h1 : Blk w g #[.int .i64 r.kind, .int .i64 r.app, .string (bs r.queue)] 23) (h2 : Blk w (g + 1) #[.bool b] 4) :
    CallsD Try.prog 16 #[.pointer (some ⟨g, 0, none⟩), .pointer (some ⟨g + 1, 0, none⟩)] .returning w fun e u' w' =>
      e = .returned (.tuple #[]) ∧ u' = .returning ∧ Below w.heap.size w w' := by
  have H1 := hide h1
  have H2 := hide h2
  clear h1 h2
  refine callsD_of_wpS Try.func16 rfl fun c₀ cs hu => ?_
  apply wpS_seq
  apply wpS_region
  rw [Try.ntmps16, show ∀ x y : Value, #[x, y] ++ Array.replicate (11 - #[x, y].size) undef = #[x, y, undef, undef, undef, undef, undef, undef, undef, undef, undef] from fun _ _ => rfl]
  simp only [List.size_toArray, List.length_cons, List.length_nil, Nat.zero_add, Nat.reduceAdd, List.range, List.range.loop]
  refine opsS_rec0 (w' := w) (d := some 5) rfl rfl rfl (by simp [go_sem]) (by simp [recoverD, hu]) ?_
  simp only [Act.put, List.setIfInBounds_toArray, List.set_cons_zero, List.set_cons_succ]
  refine opsS_call (w' := w) (f := 17) (args := #[.nilIface]) (d := some 6) rfl rfl rfl (by simp [go_sem]) (failure_no w) ?_
  rintro e w1 ⟨rfl, hb⟩
  refine ⟨_, rfl, ?_⟩
  have HB := hide hb
  have G1 := hide ((unhide H1).below hb)
  have G2 := hide ((unhide H2).below hb)
  clear hb
  simp only [Act.put, List.setIfInBounds_toArray, List.set_cons_zero, List.set_cons_succ]
  refine opsS_val (v := .tuple #[.agg #[.int .i64 0], .bool false]) (w' := w1) (d := some 4) rfl rfl rfl (by simp [go_sem]) ?_
  simp only [Act.put, List.setIfInBounds_toArray, List.set_cons_zero, List.set_cons_succ]
  refine opsS_val (v := .agg #[.int .i64 0]) (w' := w1) (d := some 7) rfl rfl rfl (by simp [go_sem]) ?_
  simp only [Act.put, List.setIfInBounds_toArray, List.set_cons_zero, List.set_cons_succ]
  refine opsS_val (v := .bool false) (w' := w1) (d := some 8) rfl rfl rfl (by simp [go_sem]) ?_
  simp only [Act.put, List.setIfInBounds_toArray, List.set_cons_zero, List.set_cons_succ]
  refine opsS_val (v := .pointer (some ⟨w1.heap.size, 0, none⟩)) (w' := w1.alloc (.cells #[.int .i64 0] 39)) (d := some 2) rfl rfl rfl (by simp [go_sem]) ?_
  simp only [Act.put, List.setIfInBounds_toArray, List.set_cons_zero, List.set_cons_succ]
  refine opsS_skip (w' := w1.alloc (.cells #[.int .i64 0] 39)) (d := none) rfl rfl rfl (by simp [go_sem]) ?_
  simp only [Act.put, List.setIfInBounds_toArray, List.set_cons_zero, List.set_cons_succ]
  refine opsS_val (v := .bool false) (w' := w1.alloc (.cells #[.int .i64 0] 39)) (d := some 3) rfl rfl rfl (by simp [go_sem]) ?_
  simp only [Act.put, List.setIfInBounds_toArray, List.set_cons_zero, List.set_cons_succ]
  refine opsS_nil ?_
  refine wpS_of_wp ?_
  have HBL := hide (below_al (unhide HB) (.cells #[.int .i64 0] 39))
  go_wp2
  refine ⟨rfl, .returning, ?_, .tuple #[], by simp [results, Try.results16, go_sem], rfl, rfl, unhide HBL⟩
  cases c₀
  simp_all
end Go.Proofs.Ytmmdckakchconaa
