/-
  An operation out of its text, by the program: askOp, wordsOp, readOp, ReadOp; walks over the dump.
-/
import Derived.Test.YtfhnjghjibklcaaDoorRoI
import Derived.Test.YtfhnjghjibklcaaDoorReadResI
import Derived.Test.YtfhnjghjibklcaaDoorWordsI
import Derived.Test.YtfhnjghjibklcaaDoorSets
import Derived.Test.YtfhnjghjibklcaaDoorHeldK
import Derived.Test.YtfhnjghjibklcaaDoorHBk
import Derived.Test.YtfhnjghjibklcaaDoorTakeD
import Derived.BigRegion
import Derived.Deep.RegionHeld3
import Derived.Deep.CutRange
namespace Go.Proofs.YtfhnjghjibklcaaDoor
open Go.RowKit
set_option linter.unusedVariables false
set_option linter.unusedSimpArgs false

theorem SS.word {w : World} {g cap : Nat} {ps : List (List UInt8)} (h : SS w g cap (ps.map bs)) {j : Nat} (hj : j < ps.length) : w.cell? ⟨g, j, none⟩ = some (.string (bs ps[j])) := by
  have := h.cell j (by simpa using hj)
  simpa using this

def nodeOk : Option (List UInt8) → Bool
  | some x => nameOk x
  | none => true
theorem rdAsk_is (a b c d : List UInt8) (e : Option (List UInt8)) : rdAsk a b c d e = (⟨2, [], readDec b, ⟨(rdRes c).1, (rdRes c).2, readDec d, e.getD [], 0⟩, 0, [], 0, 0, []⟩, (readROk c && nodeOk e) && (decide (a = kAsk) && (decide (0 ≤ readDec b) && decide (0 ≤ readDec d)))) := by cases e <;> rfl

set_option maxRecDepth 100000 in
set_option maxHeartbeats 8000000 in
theorem readOp_any (g n cap : Nat) (r : Opv × Bool) (w : World)
    (hc : ∀ wx, Below w.heap.size w wx → Calls Tryd.prog 25 #[.slice (some ⟨g, 0, none⟩) n cap] wx fun e w' => e = .returned (.tuple #[opv r.1 none 0 0, .bool r.2]) ∧ Below wx.heap.size wx w') :
    Calls Tryd.prog 15 #[.slice (some ⟨g, 0, none⟩) n cap] w fun e w' => e = .returned (.tuple #[opv (keepOp r).1 none 0 0, .bool (keepOp r).2]) ∧ Below w.heap.size w w' := by
  have CW := hide hc
  have HK := hide (show keepOp r = if r.2 = true then r else (zop, false) from rfl)
  obtain ⟨kr, hkr⟩ : ∃ k, keepOp r = k := ⟨_, rfl⟩
  rw [hkr] at HK ⊢
  obtain ⟨⟨kind, queue, app, ⟨am, ac, an, ad, ai⟩, cont, node, mem, cpu, conts⟩, ok⟩ := r
  simp only at HK CW
  clear hc hkr
  have HB0 := hide (below_al (Below.refl _ w) (.cells #[.int .i64 0, .string (⟨#[]⟩ : ByteArray), .int .i64 0, .int .i64 0, .int .i64 0, .int .i64 0, .string (⟨#[]⟩ : ByteArray), .int .i64 0, .int .i64 0, .string (⟨#[]⟩ : ByteArray), .int .i64 0, .int .i64 0, .slice none 0 0] 28))
  have R0 := hide (blk_new w #[.int .i64 0, .string (⟨#[]⟩ : ByteArray), .int .i64 0, .int .i64 0, .int .i64 0, .int .i64 0, .string (⟨#[]⟩ : ByteArray), .int .i64 0, .int .i64 0, .string (⟨#[]⟩ : ByteArray), .int .i64 0, .int .i64 0, .slice none 0 0] 28)
  go_enter Tryd.func15, Tryd.ntmps15
  go_wp2_with fail
  refine (unhide CW _ (unhide HB0)).mono ?_
  rintro e w1 ⟨rfl, hb⟩
  have HB1 := hide (below_al (below_on (unhide HB0) hb) (.cells #[.int .i64 kind, .string (bs queue), .int .i64 app, .int .i64 am, .int .i64 ac, .int .i64 an, .string (bs ad), .int .i64 ai, .int .i64 cont, .string (bs node), .int .i64 mem, .int .i64 cpu, .slice none 0 0] 28))
  have R1 := hide (((unhide R0).below hb).al (.cells #[.int .i64 kind, .string (bs queue), .int .i64 app, .int .i64 am, .int .i64 ac, .int .i64 an, .string (bs ad), .int .i64 ai, .int .i64 cont, .string (bs node), .int .i64 mem, .int .i64 cpu, .slice none 0 0] 28))
  clear hb HB0 R0 CW
  cases ok
  case false =>
    have HE := hide (show kr = (zop, false) from by rw [unhide HK]; rfl)
    have k0 := (unhide R1).at 0; have k1 := (unhide R1).at 1; have k2 := (unhide R1).at 2; have k3 := (unhide R1).at 3; have k4 := (unhide R1).at 4; have k5 := (unhide R1).at 5; have k6 := (unhide R1).at 6; have k7 := (unhide R1).at 7; have k8 := (unhide R1).at 8; have k9 := (unhide R1).at 9; have k10 := (unhide R1).at 10; have k11 := (unhide R1).at 11; have k12 := (unhide R1).at 12
    have fk0 := (unhide R1).f 0; have fk1 := (unhide R1).f 1; have fk2 := (unhide R1).f 2; have fk3 := (unhide R1).f 3; have fk4 := (unhide R1).f 4; have fk5 := (unhide R1).f 5; have fk6 := (unhide R1).f 6; have fk7 := (unhide R1).f 7; have fk8 := (unhide R1).f 8; have fk9 := (unhide R1).f 9; have fk10 := (unhide R1).f 10; have fk11 := (unhide R1).f 11; have fk12 := (unhide R1).f 12
    simp at k0 k1 k2 k3 k4 k5 k6 k7 k8 k9 k10 k11 k12
    have HX := hide (show Blk ((((((((((((((w1.alloc (.cells #[.int .i64 kind, .string (bs queue), .int .i64 app, .int .i64 am, .int .i64 ac, .int .i64 an, .string (bs ad), .int .i64 ai, .int .i64 cont, .string (bs node), .int .i64 mem, .int .i64 cpu, .slice none 0 0] 28)).setCell ⟨w.heap.size, 0, none⟩ (.int .i64 0)).setCell ⟨w.heap.size, 1, none⟩ (.string (⟨#[]⟩ : ByteArray))).setCell ⟨w.heap.size, 2, none⟩ (.int .i64 0)).setCell ⟨w.heap.size, 3, none⟩ (.int .i64 0)).setCell ⟨w.heap.size, 4, none⟩ (.int .i64 0)).setCell ⟨w.heap.size, 5, none⟩ (.int .i64 0)).setCell ⟨w.heap.size, 6, none⟩ (.string (⟨#[]⟩ : ByteArray))).setCell ⟨w.heap.size, 7, none⟩ (.int .i64 0)).setCell ⟨w.heap.size, 8, none⟩ (.int .i64 0)).setCell ⟨w.heap.size, 9, none⟩ (.string (⟨#[]⟩ : ByteArray))).setCell ⟨w.heap.size, 10, none⟩ (.int .i64 0)).setCell ⟨w.heap.size, 11, none⟩ (.int .i64 0)).setCell ⟨w.heap.size, 12, none⟩ (.slice none 0 0)) (w.heap.size) #[.int .i64 0, .string (⟨#[]⟩ : ByteArray), .int .i64 0, .int .i64 0, .int .i64 0, .int .i64 0, .string (⟨#[]⟩ : ByteArray), .int .i64 0, .int .i64 0, .string (⟨#[]⟩ : ByteArray), .int .i64 0, .int .i64 0, .slice none 0 0] 28 from (Blk.sets (unhide R1) [.int .i64 0, .string (⟨#[]⟩ : ByteArray), .int .i64 0, .int .i64 0, .int .i64 0, .int .i64 0, .string (⟨#[]⟩ : ByteArray), .int .i64 0, .int .i64 0, .string (⟨#[]⟩ : ByteArray), .int .i64 0, .int .i64 0, .slice none 0 0] rfl))
    have HY := hide (show Below w.heap.size w ((((((((((((((w1.alloc (.cells #[.int .i64 kind, .string (bs queue), .int .i64 app, .int .i64 am, .int .i64 ac, .int .i64 an, .string (bs ad), .int .i64 ai, .int .i64 cont, .string (bs node), .int .i64 mem, .int .i64 cpu, .slice none 0 0] 28)).setCell ⟨w.heap.size, 0, none⟩ (.int .i64 0)).setCell ⟨w.heap.size, 1, none⟩ (.string (⟨#[]⟩ : ByteArray))).setCell ⟨w.heap.size, 2, none⟩ (.int .i64 0)).setCell ⟨w.heap.size, 3, none⟩ (.int .i64 0)).setCell ⟨w.heap.size, 4, none⟩ (.int .i64 0)).setCell ⟨w.heap.size, 5, none⟩ (.int .i64 0)).setCell ⟨w.heap.size, 6, none⟩ (.string (⟨#[]⟩ : ByteArray))).setCell ⟨w.heap.size, 7, none⟩ (.int .i64 0)).setCell ⟨w.heap.size, 8, none⟩ (.int .i64 0)).setCell ⟨w.heap.size, 9, none⟩ (.string (⟨#[]⟩ : ByteArray))).setCell ⟨w.heap.size, 10, none⟩ (.int .i64 0)).setCell ⟨w.heap.size, 11, none⟩ (.int .i64 0)).setCell ⟨w.heap.size, 12, none⟩ (.slice none 0 0)) from (below_sets (unhide HB1) (g := w.heap.size) (by omega) 0 [.int .i64 0, .string (⟨#[]⟩ : ByteArray), .int .i64 0, .int .i64 0, .int .i64 0, .int .i64 0, .string (⟨#[]⟩ : ByteArray), .int .i64 0, .int .i64 0, .string (⟨#[]⟩ : ByteArray), .int .i64 0, .int .i64 0, .slice none 0 0]))
    go_wp2
    generalize ((((((((((((((w1.alloc (.cells #[.int .i64 kind, .string (bs queue), .int .i64 app, .int .i64 am, .int .i64 ac, .int .i64 an, .string (bs ad), .int .i64 ai, .int .i64 cont, .string (bs node), .int .i64 mem, .int .i64 cpu, .slice none 0 0] 28)).setCell ⟨w.heap.size, 0, none⟩ (.int .i64 0)).setCell ⟨w.heap.size, 1, none⟩ (.string (⟨#[]⟩ : ByteArray))).setCell ⟨w.heap.size, 2, none⟩ (.int .i64 0)).setCell ⟨w.heap.size, 3, none⟩ (.int .i64 0)).setCell ⟨w.heap.size, 4, none⟩ (.int .i64 0)).setCell ⟨w.heap.size, 5, none⟩ (.int .i64 0)).setCell ⟨w.heap.size, 6, none⟩ (.string (⟨#[]⟩ : ByteArray))).setCell ⟨w.heap.size, 7, none⟩ (.int .i64 0)).setCell ⟨w.heap.size, 8, none⟩ (.int .i64 0)).setCell ⟨w.heap.size, 9, none⟩ (.string (⟨#[]⟩ : ByteArray))).setCell ⟨w.heap.size, 10, none⟩ (.int .i64 0)).setCell ⟨w.heap.size, 11, none⟩ (.int .i64 0)).setCell ⟨w.heap.size, 12, none⟩ (.slice none 0 0)) = W9 at HX HY ⊢
    have z0 := (unhide HX).at 0; have z1 := (unhide HX).at 1; have z2 := (unhide HX).at 2; have z3 := (unhide HX).at 3; have z4 := (unhide HX).at 4; have z5 := (unhide HX).at 5; have z6 := (unhide HX).at 6; have z7 := (unhide HX).at 7; have z8 := (unhide HX).at 8; have z9 := (unhide HX).at 9; have z10 := (unhide HX).at 10; have z11 := (unhide HX).at 11; have z12 := (unhide HX).at 12
    simp at z0 z1 z2 z3 z4 z5 z6 z7 z8 z9 z10 z11 z12
    refine bodyPost_ret (v := .tuple #[opv ⟨0, [], 0, ⟨0, 0, 0, [], 0⟩, 0, [], 0, 0, []⟩ none 0 0, .bool false]) (by simp [results, Tryd.results15, go_sem, z0, z1, z2, z3, z4, z5, z6, z7, z8, z9, z10, z11, z12]; try rfl) rfl ⟨by rw [unhide HE]; rfl, unhide HY⟩
  case true =>
    have HE := hide (show kr = (⟨kind, queue, app, ⟨am, ac, an, ad, ai⟩, cont, node, mem, cpu, conts⟩, true) from by rw [unhide HK]; rfl)
    have k0 := (unhide R1).at 0; have k1 := (unhide R1).at 1; have k2 := (unhide R1).at 2; have k3 := (unhide R1).at 3; have k4 := (unhide R1).at 4; have k5 := (unhide R1).at 5; have k6 := (unhide R1).at 6; have k7 := (unhide R1).at 7; have k8 := (unhide R1).at 8; have k9 := (unhide R1).at 9; have k10 := (unhide R1).at 10; have k11 := (unhide R1).at 11; have k12 := (unhide R1).at 12
    have fk0 := (unhide R1).f 0; have fk1 := (unhide R1).f 1; have fk2 := (unhide R1).f 2; have fk3 := (unhide R1).f 3; have fk4 := (unhide R1).f 4; have fk5 := (unhide R1).f 5; have fk6 := (unhide R1).f 6; have fk7 := (unhide R1).f 7; have fk8 := (unhide R1).f 8; have fk9 := (unhide R1).f 9; have fk10 := (unhide R1).f 10; have fk11 := (unhide R1).f 11; have fk12 := (unhide R1).f 12
    simp at k0 k1 k2 k3 k4 k5 k6 k7 k8 k9 k10 k11 k12
    have HX := hide (show Blk ((((((((((((((w1.alloc (.cells #[.int .i64 kind, .string (bs queue), .int .i64 app, .int .i64 am, .int .i64 ac, .int .i64 an, .string (bs ad), .int .i64 ai, .int .i64 cont, .string (bs node), .int .i64 mem, .int .i64 cpu, .slice none 0 0] 28)).setCell ⟨w.heap.size, 0, none⟩ (.int .i64 kind)).setCell ⟨w.heap.size, 1, none⟩ (.string (bs queue))).setCell ⟨w.heap.size, 2, none⟩ (.int .i64 app)).setCell ⟨w.heap.size, 3, none⟩ (.int .i64 am)).setCell ⟨w.heap.size, 4, none⟩ (.int .i64 ac)).setCell ⟨w.heap.size, 5, none⟩ (.int .i64 an)).setCell ⟨w.heap.size, 6, none⟩ (.string (bs ad))).setCell ⟨w.heap.size, 7, none⟩ (.int .i64 ai)).setCell ⟨w.heap.size, 8, none⟩ (.int .i64 cont)).setCell ⟨w.heap.size, 9, none⟩ (.string (bs node))).setCell ⟨w.heap.size, 10, none⟩ (.int .i64 mem)).setCell ⟨w.heap.size, 11, none⟩ (.int .i64 cpu)).setCell ⟨w.heap.size, 12, none⟩ (.slice none 0 0)) (w.heap.size) #[.int .i64 kind, .string (bs queue), .int .i64 app, .int .i64 am, .int .i64 ac, .int .i64 an, .string (bs ad), .int .i64 ai, .int .i64 cont, .string (bs node), .int .i64 mem, .int .i64 cpu, .slice none 0 0] 28 from (Blk.sets (unhide R1) [.int .i64 kind, .string (bs queue), .int .i64 app, .int .i64 am, .int .i64 ac, .int .i64 an, .string (bs ad), .int .i64 ai, .int .i64 cont, .string (bs node), .int .i64 mem, .int .i64 cpu, .slice none 0 0] rfl))
    have HY := hide (show Below w.heap.size w ((((((((((((((w1.alloc (.cells #[.int .i64 kind, .string (bs queue), .int .i64 app, .int .i64 am, .int .i64 ac, .int .i64 an, .string (bs ad), .int .i64 ai, .int .i64 cont, .string (bs node), .int .i64 mem, .int .i64 cpu, .slice none 0 0] 28)).setCell ⟨w.heap.size, 0, none⟩ (.int .i64 kind)).setCell ⟨w.heap.size, 1, none⟩ (.string (bs queue))).setCell ⟨w.heap.size, 2, none⟩ (.int .i64 app)).setCell ⟨w.heap.size, 3, none⟩ (.int .i64 am)).setCell ⟨w.heap.size, 4, none⟩ (.int .i64 ac)).setCell ⟨w.heap.size, 5, none⟩ (.int .i64 an)).setCell ⟨w.heap.size, 6, none⟩ (.string (bs ad))).setCell ⟨w.heap.size, 7, none⟩ (.int .i64 ai)).setCell ⟨w.heap.size, 8, none⟩ (.int .i64 cont)).setCell ⟨w.heap.size, 9, none⟩ (.string (bs node))).setCell ⟨w.heap.size, 10, none⟩ (.int .i64 mem)).setCell ⟨w.heap.size, 11, none⟩ (.int .i64 cpu)).setCell ⟨w.heap.size, 12, none⟩ (.slice none 0 0)) from (below_sets (unhide HB1) (g := w.heap.size) (by omega) 0 [.int .i64 kind, .string (bs queue), .int .i64 app, .int .i64 am, .int .i64 ac, .int .i64 an, .string (bs ad), .int .i64 ai, .int .i64 cont, .string (bs node), .int .i64 mem, .int .i64 cpu, .slice none 0 0]))
    go_wp2
    generalize ((((((((((((((w1.alloc (.cells #[.int .i64 kind, .string (bs queue), .int .i64 app, .int .i64 am, .int .i64 ac, .int .i64 an, .string (bs ad), .int .i64 ai, .int .i64 cont, .string (bs node), .int .i64 mem, .int .i64 cpu, .slice none 0 0] 28)).setCell ⟨w.heap.size, 0, none⟩ (.int .i64 kind)).setCell ⟨w.heap.size, 1, none⟩ (.string (bs queue))).setCell ⟨w.heap.size, 2, none⟩ (.int .i64 app)).setCell ⟨w.heap.size, 3, none⟩ (.int .i64 am)).setCell ⟨w.heap.size, 4, none⟩ (.int .i64 ac)).setCell ⟨w.heap.size, 5, none⟩ (.int .i64 an)).setCell ⟨w.heap.size, 6, none⟩ (.string (bs ad))).setCell ⟨w.heap.size, 7, none⟩ (.int .i64 ai)).setCell ⟨w.heap.size, 8, none⟩ (.int .i64 cont)).setCell ⟨w.heap.size, 9, none⟩ (.string (bs node))).setCell ⟨w.heap.size, 10, none⟩ (.int .i64 mem)).setCell ⟨w.heap.size, 11, none⟩ (.int .i64 cpu)).setCell ⟨w.heap.size, 12, none⟩ (.slice none 0 0)) = W9 at HX HY ⊢
    have z0 := (unhide HX).at 0; have z1 := (unhide HX).at 1; have z2 := (unhide HX).at 2; have z3 := (unhide HX).at 3; have z4 := (unhide HX).at 4; have z5 := (unhide HX).at 5; have z6 := (unhide HX).at 6; have z7 := (unhide HX).at 7; have z8 := (unhide HX).at 8; have z9 := (unhide HX).at 9; have z10 := (unhide HX).at 10; have z11 := (unhide HX).at 11; have z12 := (unhide HX).at 12
    simp at z0 z1 z2 z3 z4 z5 z6 z7 z8 z9 z10 z11 z12
    refine bodyPost_ret (v := .tuple #[opv ⟨kind, queue, app, ⟨am, ac, an, ad, ai⟩, cont, node, mem, cpu, conts⟩ none 0 0, .bool true]) (by simp [results, Tryd.results15, go_sem, z0, z1, z2, z3, z4, z5, z6, z7, z8, z9, z10, z11, z12]; try rfl) rfl ⟨by rw [unhide HE], unhide HY⟩

set_option maxRecDepth 100000 in
set_option maxHeartbeats 8000000 in
theorem wordsOp1_any (a : List UInt8) (g cap : Nat) (w : World) (h : SS w g cap ([a].map bs)) :
    Calls Tryd.prog 25 #[.slice (some ⟨g, 0, none⟩) 1 cap] w fun e w' => e = .returned (.tuple #[opv ⟨6, [], 0, ⟨0, 0, 0, [], 0⟩, 0, [], 0, 0, []⟩ none 0 0, .bool (decide (a = kTick))]) ∧ Below w.heap.size w w' := by
  have c0 : w.cell? ⟨g, 0, none⟩ = some (.string (bs a)) := h.word (j := 0) (by simp)
  have R : ∀ wx, Kp w wx → wx.cell? ⟨g, 0, none⟩ = some (.string (bs a)) := fun wx h => Kp.cell h c0
  have A0 := hide (below_al (Below.refl _ w) (.cells #[.int .i64 0, .string (⟨#[]⟩ : ByteArray), .int .i64 0, .int .i64 0, .int .i64 0, .int .i64 0, .string (⟨#[]⟩ : ByteArray), .int .i64 0, .int .i64 0, .string (⟨#[]⟩ : ByteArray), .int .i64 0, .int .i64 0, .slice none 0 0] 28))
  have s1 : ((bs a).toList == [116, 105, 99, 107]) = decide (a = kTick) := is_word a kTick
  obtain ⟨b, hb⟩ : ∃ b, decide (a = kTick) = b := ⟨_, rfl⟩
  rw [hb] at s1 ⊢
  clear h c0 hb
  go_enter Tryd.func25, Tryd.ntmps25
  go_wp2_with fail
  go_region_held3 (fun wx => Kp w wx)
    (first | (with_reducible assumption) | exact (unhide A0).drew | exact (below_al (Below.refl _ w) _).drew)
    (fail)
  go_wp2
  exact bodyPost_ret (v := .tuple #[opv ⟨6, [], 0, ⟨0, 0, 0, [], 0⟩, 0, [], 0, 0, []⟩ none 0 0, .bool b]) (by simp [results, Tryd.results25, go_sem]; try rfl) rfl ⟨rfl, (below_al (Below.refl _ _) _).drew⟩

set_option maxRecDepth 100000 in
set_option maxHeartbeats 8000000 in
theorem wordsOp2_any (a b : List UInt8) (g cap : Nat) (w : World) (h : SS w g cap ([a, b].map bs)) (ha : a.length ≤ 1048576) (hb : b.length ≤ 1048576) :
    Calls Tryd.prog 25 #[.slice (some ⟨g, 0, none⟩) 2 cap] w fun e w' => e = .returned (.tuple #[opv (rdShort a b).1 none 0 0, .bool (rdShort a b).2]) ∧ Below w.heap.size w w' := by
  have c0 : w.cell? ⟨g, 0, none⟩ = some (.string (bs a)) := h.word (j := 0) (by simp)
  have c1 : w.cell? ⟨g, 1, none⟩ = some (.string (bs b)) := h.word (j := 1) (by simp)
  have R : ∀ wx, Kp w wx → wx.cell? ⟨g, 0, none⟩ = some (.string (bs a)) ∧ wx.cell? ⟨g, 1, none⟩ = some (.string (bs b)) := fun wx h => ⟨Kp.cell h c0, Kp.cell h c1⟩
  have A0 := hide (show Kp w _ from below_al (Below.refl _ w) (.cells #[.int .i64 0, .string (⟨#[]⟩ : ByteArray), .int .i64 0, .int .i64 0, .int .i64 0, .int .i64 0, .string (⟨#[]⟩ : ByteArray), .int .i64 0, .int .i64 0, .string (⟨#[]⟩ : ByteArray), .int .i64 0, .int .i64 0, .slice none 0 0] 28))
  have R0 := hide (blk_new w #[.int .i64 0, .string (⟨#[]⟩ : ByteArray), .int .i64 0, .int .i64 0, .int .i64 0, .int .i64 0, .string (⟨#[]⟩ : ByteArray), .int .i64 0, .int .i64 0, .string (⟨#[]⟩ : ByteArray), .int .i64 0, .int .i64 0, .slice none 0 0] 28)
  have HS := hide (kp_holds w)
  have CS := hide (fun wx => shortOp_any a b wx ha hb)
  obtain ⟨⟨⟨kind, queue, app, ⟨am, ac, an, ad, ai⟩, cont, node, mem, cpu, conts⟩, ok⟩, hr⟩ : ∃ r, rdShort a b = r := ⟨_, rfl⟩
  rw [hr] at CS ⊢
  simp only at CS
  clear h c0 c1 ha hb hr
  go_enter Tryd.func25, Tryd.ntmps25
  go_wp2_with fail
  go_region_held3 (fun wx => Kp w wx)
    (first | (with_reducible assumption) | (with_reducible exact (unhide HS).drew (unhide A0)))
    (first
    | (go_at_call 30; refine (unhide CS _).mono ?_; rintro e w1 ⟨rfl, hb⟩; have SA0 := (unhide HS).call ((unhide HS).drew (unhide A0)) hb; have SA := hide SA0; have R1 := hide ((unhide R0).drew.below hb); have SB := (show Kp w (((((((((((((w1.setCell ⟨w.heap.size, 0, none⟩ (.int .i64 kind)).setCell ⟨w.heap.size, 1, none⟩ (.string (bs queue))).setCell ⟨w.heap.size, 2, none⟩ (.int .i64 app)).setCell ⟨w.heap.size, 3, none⟩ (.int .i64 am)).setCell ⟨w.heap.size, 4, none⟩ (.int .i64 ac)).setCell ⟨w.heap.size, 5, none⟩ (.int .i64 an)).setCell ⟨w.heap.size, 6, none⟩ (.string (bs ad))).setCell ⟨w.heap.size, 7, none⟩ (.int .i64 ai)).setCell ⟨w.heap.size, 8, none⟩ (.int .i64 cont)).setCell ⟨w.heap.size, 9, none⟩ (.string (bs node))).setCell ⟨w.heap.size, 10, none⟩ (.int .i64 mem)).setCell ⟨w.heap.size, 11, none⟩ (.int .i64 cpu)).setCell ⟨w.heap.size, 12, none⟩ (.slice none 0 0)) from below_sets SA0 (g := w.heap.size) (Nat.le_refl _) 0 [.int .i64 kind, .string (bs queue), .int .i64 app, .int .i64 am, .int .i64 ac, .int .i64 an, .string (bs ad), .int .i64 ai, .int .i64 cont, .string (bs node), .int .i64 mem, .int .i64 cpu, .slice none 0 0])
       have k0 := (unhide R1).at 0; have k1 := (unhide R1).at 1; have k2 := (unhide R1).at 2; have k3 := (unhide R1).at 3; have k4 := (unhide R1).at 4; have k5 := (unhide R1).at 5; have k6 := (unhide R1).at 6; have k7 := (unhide R1).at 7; have k8 := (unhide R1).at 8; have k9 := (unhide R1).at 9; have k10 := (unhide R1).at 10; have k11 := (unhide R1).at 11; have k12 := (unhide R1).at 12
       have fk0 := (unhide R1).f 0; have fk1 := (unhide R1).f 1; have fk2 := (unhide R1).f 2; have fk3 := (unhide R1).f 3; have fk4 := (unhide R1).f 4; have fk5 := (unhide R1).f 5; have fk6 := (unhide R1).f 6; have fk7 := (unhide R1).f 7; have fk8 := (unhide R1).f 8; have fk9 := (unhide R1).f 9; have fk10 := (unhide R1).f 10; have fk11 := (unhide R1).f 11; have fk12 := (unhide R1).f 12
       simp at k0 k1 k2 k3 k4 k5 k6 k7 k8 k9 k10 k11 k12))
  have HX := hide (show Blk (((((((((((((w1.setCell ⟨w.heap.size, 0, none⟩ (.int .i64 kind)).setCell ⟨w.heap.size, 1, none⟩ (.string (bs queue))).setCell ⟨w.heap.size, 2, none⟩ (.int .i64 app)).setCell ⟨w.heap.size, 3, none⟩ (.int .i64 am)).setCell ⟨w.heap.size, 4, none⟩ (.int .i64 ac)).setCell ⟨w.heap.size, 5, none⟩ (.int .i64 an)).setCell ⟨w.heap.size, 6, none⟩ (.string (bs ad))).setCell ⟨w.heap.size, 7, none⟩ (.int .i64 ai)).setCell ⟨w.heap.size, 8, none⟩ (.int .i64 cont)).setCell ⟨w.heap.size, 9, none⟩ (.string (bs node))).setCell ⟨w.heap.size, 10, none⟩ (.int .i64 mem)).setCell ⟨w.heap.size, 11, none⟩ (.int .i64 cpu)).setCell ⟨w.heap.size, 12, none⟩ (.slice none 0 0)) (w.heap.size) #[.int .i64 kind, .string (bs queue), .int .i64 app, .int .i64 am, .int .i64 ac, .int .i64 an, .string (bs ad), .int .i64 ai, .int .i64 cont, .string (bs node), .int .i64 mem, .int .i64 cpu, .slice none 0 0] 28 from (Blk.sets (unhide R1) [.int .i64 kind, .string (bs queue), .int .i64 app, .int .i64 am, .int .i64 ac, .int .i64 an, .string (bs ad), .int .i64 ai, .int .i64 cont, .string (bs node), .int .i64 mem, .int .i64 cpu, .slice none 0 0] rfl))
  have HY := hide (show Below w.heap.size w (((((((((((((w1.setCell ⟨w.heap.size, 0, none⟩ (.int .i64 kind)).setCell ⟨w.heap.size, 1, none⟩ (.string (bs queue))).setCell ⟨w.heap.size, 2, none⟩ (.int .i64 app)).setCell ⟨w.heap.size, 3, none⟩ (.int .i64 am)).setCell ⟨w.heap.size, 4, none⟩ (.int .i64 ac)).setCell ⟨w.heap.size, 5, none⟩ (.int .i64 an)).setCell ⟨w.heap.size, 6, none⟩ (.string (bs ad))).setCell ⟨w.heap.size, 7, none⟩ (.int .i64 ai)).setCell ⟨w.heap.size, 8, none⟩ (.int .i64 cont)).setCell ⟨w.heap.size, 9, none⟩ (.string (bs node))).setCell ⟨w.heap.size, 10, none⟩ (.int .i64 mem)).setCell ⟨w.heap.size, 11, none⟩ (.int .i64 cpu)).setCell ⟨w.heap.size, 12, none⟩ (.slice none 0 0)) from (below_sets (unhide SA) (g := w.heap.size) (by omega) 0 [.int .i64 kind, .string (bs queue), .int .i64 app, .int .i64 am, .int .i64 ac, .int .i64 an, .string (bs ad), .int .i64 ai, .int .i64 cont, .string (bs node), .int .i64 mem, .int .i64 cpu, .slice none 0 0]))
  go_wp2
  generalize (((((((((((((w1.setCell ⟨w.heap.size, 0, none⟩ (.int .i64 kind)).setCell ⟨w.heap.size, 1, none⟩ (.string (bs queue))).setCell ⟨w.heap.size, 2, none⟩ (.int .i64 app)).setCell ⟨w.heap.size, 3, none⟩ (.int .i64 am)).setCell ⟨w.heap.size, 4, none⟩ (.int .i64 ac)).setCell ⟨w.heap.size, 5, none⟩ (.int .i64 an)).setCell ⟨w.heap.size, 6, none⟩ (.string (bs ad))).setCell ⟨w.heap.size, 7, none⟩ (.int .i64 ai)).setCell ⟨w.heap.size, 8, none⟩ (.int .i64 cont)).setCell ⟨w.heap.size, 9, none⟩ (.string (bs node))).setCell ⟨w.heap.size, 10, none⟩ (.int .i64 mem)).setCell ⟨w.heap.size, 11, none⟩ (.int .i64 cpu)).setCell ⟨w.heap.size, 12, none⟩ (.slice none 0 0)) = W9 at HX HY ⊢
  have z0 := (unhide HX).at 0; have z1 := (unhide HX).at 1; have z2 := (unhide HX).at 2; have z3 := (unhide HX).at 3; have z4 := (unhide HX).at 4; have z5 := (unhide HX).at 5; have z6 := (unhide HX).at 6; have z7 := (unhide HX).at 7; have z8 := (unhide HX).at 8; have z9 := (unhide HX).at 9; have z10 := (unhide HX).at 10; have z11 := (unhide HX).at 11; have z12 := (unhide HX).at 12
  simp at z0 z1 z2 z3 z4 z5 z6 z7 z8 z9 z10 z11 z12
  refine bodyPost_ret (v := .tuple #[opv ⟨kind, queue, app, ⟨am, ac, an, ad, ai⟩, cont, node, mem, cpu, conts⟩ none 0 0, .bool ok]) (by simp [results, Tryd.results25, go_sem, z0, z1, z2, z3, z4, z5, z6, z7, z8, z9, z10, z11, z12]; try rfl) rfl ⟨rfl, unhide HY⟩

set_option maxRecDepth 100000 in
set_option maxHeartbeats 16000000 in
theorem askOp_any (a b c d : List UInt8) (e : Option (List UInt8)) (g n cap : Nat) (w : World) (hn : n = 4 + (if e.isSome then 1 else 0)) (h0 : w.cell? ⟨g, 0, none⟩ = some (.string (bs a))) (h1 : w.cell? ⟨g, 1, none⟩ = some (.string (bs b))) (h2 : w.cell? ⟨g, 2, none⟩ = some (.string (bs c))) (h3 : w.cell? ⟨g, 3, none⟩ = some (.string (bs d))) (h4 : ∀ x, e = some x → w.cell? ⟨g, 4, none⟩ = some (.string (bs x)) ∧ x.length ≤ 1048576)
    (hb : b.length ≤ 1048576) (hc : c.length ≤ 1048576) (hd : d.length ≤ 1048576) (hm : MaxLenAt w) :
    Calls Tryd.prog 31 #[.slice (some ⟨g, 0, none⟩) n cap] w fun e' w' => e' = .returned (.tuple #[opv (rdAsk a b c d e).1 none 0 0, .bool (rdAsk a b c d e).2]) ∧ Below w.heap.size w w' := by
  have CR := hide (fun wx (hx : Below w.heap.size w wx) => by have := implReadRes_any (bs c) wx (by rw [bs_size]; exact hc) (hm.below hx); rw [bs_data, readRV_pair] at this; exact this)
  have CB := hide (fun wx => by have := implReadDec_any (bs b) wx (by rw [bs_size]; exact hb); rw [bs_data] at this; exact this)
  have CD := hide (fun wx => by have := implReadDec_any (bs d) wx (by rw [bs_size]; exact hd); rw [bs_data] at this; exact this)
  have HRD := hide (rdAsk_is a b c d e)
  obtain ⟨rr, hrr⟩ : ∃ r, rdAsk a b c d e = r := ⟨_, rfl⟩
  rw [hrr] at HRD ⊢
  obtain ⟨⟨rm, rc⟩, hre⟩ : ∃ r, rdRes c = r := ⟨_, rfl⟩
  obtain ⟨ro, hro⟩ : ∃ r, readROk c = r := ⟨_, rfl⟩
  obtain ⟨nb, hnb⟩ : ∃ r, readDec b = r := ⟨_, rfl⟩
  obtain ⟨nd, hnd⟩ : ∃ r, readDec d = r := ⟨_, rfl⟩
  rw [hre, hro] at CR HRD
  rw [hnb] at CB HRD
  rw [hnd] at CD HRD
  simp only at CR HRD
  have sa : ((bs a).toList == [97, 115, 107]) = decide (a = kAsk) := is_word a kAsk
  obtain ⟨ia, hia⟩ : ∃ r, decide (a = kAsk) = r := ⟨_, rfl⟩
  rw [hia] at sa HRD
  have HB0 := hide (below_al (Below.refl _ w) (.cells #[.int .i64 0, .string (⟨#[]⟩ : ByteArray), .int .i64 0, .int .i64 0, .int .i64 0, .int .i64 0, .string (⟨#[]⟩ : ByteArray), .int .i64 0, .int .i64 0, .string (⟨#[]⟩ : ByteArray), .int .i64 0, .int .i64 0, .slice none 0 0] 28))
  have R0 := hide (blk_new w #[.int .i64 0, .string (⟨#[]⟩ : ByteArray), .int .i64 0, .int .i64 0, .int .i64 0, .int .i64 0, .string (⟨#[]⟩ : ByteArray), .int .i64 0, .int .i64 0, .string (⟨#[]⟩ : ByteArray), .int .i64 0, .int .i64 0, .slice none 0 0] 28)
  have H0 := hide h0
  have H1 := hide h1
  have H3 := hide h3
  have CNM := hide (fun (x : List UInt8) (hx : x.length ≤ 1048576) wx => by have := implNameOk_any (bs x) wx (by rw [bs_size]; exact hx); rw [bs_data] at this; exact this)
  have H4 := hide h4
  have hng : (2 : Int) < n := by rw [hn]; split <;> omega
  have hng3 : (3 : Int) < n := by rw [hn]; split <;> omega
  have hng1 : (1 : Int) < n := by rw [hn]; split <;> omega
  have hng0 : (0 : Int) < n := by rw [hn]; split <;> omega
  have hngz : 0 < n := by omega
  have HN := hide hn
  have q2 := Kp.cell (unhide HB0) h2
  clear hn hre hro hnb hnd hia hrr h0 h1 h2 h3 h4 hb hc hd hm
  go_enter Tryd.func31, Tryd.ntmps31
  go_wp2_with fail
  refine (unhide CR _ (unhide HB0)).mono ?_
  rintro e1 w1 ⟨rfl, hb⟩
  have hba := below_al (Below.refl _ w1) (.cells #[.int .i64 rm, .int .i64 rc] 23)
  have HB1 := hide (below_on (below_on (unhide HB0) hb) hba)
  have R1 := hide (((unhide R0).below hb).below hba)
  have V1 := hide (var_new w1 23 rm rc)
  have hlt : w.heap.size < w1.heap.size := ((unhide R0).below hb).lt
  clear hb hba HB0 R0 CR q2
  go_wp2_with fail
  obtain ⟨g4, hg4⟩ : ∃ k, w1.heap.size = k := ⟨_, rfl⟩
  rw [hg4] at V1 hlt
  try rw [hg4]
  obtain ⟨W1, hW1⟩ : ∃ W, w1.alloc (.cells #[.int .i64 rm, .int .i64 rc] 23) = W := ⟨_, rfl⟩
  rw [hW1] at HB1 R1 V1
  try rw [hW1]
  have hz1 : W1.heap.size = g4 + 1 := by rw [← hW1, al_size, hg4]
  clear hg4 hW1
  have R : ∀ wx, Kp W1 wx → wx.cell? ⟨g, 1, none⟩ = some (.string (bs b)) ∧ wx.cell? ⟨g, 3, none⟩ = some (.string (bs d)) ∧ wx.cell? ⟨g4, 0, none⟩ = some (.int .i64 rm) ∧ wx.cell? ⟨g4, 1, none⟩ = some (.int .i64 rc) := fun wx h => ⟨Kp.cell (below_on (unhide HB1) h) (unhide H1), Kp.cell (below_on (unhide HB1) h) (unhide H3), Kp.cell h (unhide V1).c0, Kp.cell h (unhide V1).c1⟩
  have A0 := hide (Kp.new W1)
  have HS := hide (kp_holds W1)
  go_cut [6] from 14 to 25 (fun v6 wx => v6 = .pointer (some ⟨g4 + 1, 0, none⟩) ∧ Hid (Blk wx (g4 + 1) #[.int .i64 2, .string (⟨#[]⟩ : ByteArray), .int .i64 nb, .int .i64 rm, .int .i64 rc, .int .i64 nd, .string (⟨#[]⟩ : ByteArray), .int .i64 0, .int .i64 0, .string (⟨#[]⟩ : ByteArray), .int .i64 0, .int .i64 0, .slice none 0 0] 28) ∧ Hid (Kp W1 wx))
  case first =>
    go_region_held3 (fun wx => Kp W1 wx)
      (first | (with_reducible assumption) | exact (unhide HS).drew (unhide A0) | exact (unhide HS).al ((unhide HS).drew (unhide A0)) _ | exact (unhide HS).drew ((unhide HS).al (unhide A0) _) | exact (unhide HS).al (by assumption) _)
      (first
      | (go_at_call_of 34 b; refine (unhide CB _).mono ?_; rintro e2 wt ⟨rfl, rfl⟩)
      | (go_at_call_of 34 d; refine (unhide CD _).mono ?_; rintro e2 wt ⟨rfl, rfl⟩))
    all_goals
      go_wp2_with fail
      go_meet
      refine ⟨by first | rfl | rw [hz1], ?_, ?_⟩
      · have := (blk_new W1 #[.int .i64 2, .string (⟨#[]⟩ : ByteArray), .int .i64 nb, .int .i64 rm, .int .i64 rc, .int .i64 nd, .string (⟨#[]⟩ : ByteArray), .int .i64 0, .int .i64 0, .string (⟨#[]⟩ : ByteArray), .int .i64 0, .int .i64 0, .slice none 0 0] 28).drew
        rw [hz1] at this
        exact hide this
      · exact hide (below_al (Below.refl _ W1) _).drew
  case rest =>
    obtain ⟨rfl, O2, K2⟩ := hcut
    obtain ⟨w2, rfl⟩ : ∃ w2, w2 = wc := ⟨wc, rfl⟩
    clear R A0 HS CB CD
    have hgg : w.heap.size ≠ g4 + 1 := by omega
    go_upto_if 27 with fail
    go_cut [5] from 27 to 40 (fun v5 wx => v5 = .bool (ro && nodeOk e) ∧ Hid (Blk wx (g4 + 1) #[.int .i64 2, .string (⟨#[]⟩ : ByteArray), .int .i64 nb, .int .i64 rm, .int .i64 rc, .int .i64 nd, .string (bs (e.getD [])), .int .i64 0, .int .i64 0, .string (⟨#[]⟩ : ByteArray), .int .i64 0, .int .i64 0, .slice none 0 0] 28) ∧ Hid (Kp W1 wx))
    case first =>
      cases e with
      | none =>
        have hn4 : ¬ (4 : Int) < n := by have := unhide HN; simp at this; omega
        go_wp2
        go_meet
        exact ⟨by cases ro <;> rfl, O2, K2⟩
      | some x =>
        have hn4 : (4 : Int) < n := by have := unhide HN; simp at this; omega
        obtain ⟨h4, hx⟩ := unhide H4 x rfl
        have q4 := Kp.cell (unhide K2) (Kp.cell (unhide HB1) h4)
        have k6 := (unhide O2).at 6
        have f6 := (unhide O2).f 6
        simp at k6
        have O3 := hide (show Blk (w2.setCell ⟨g4 + 1, 6, none⟩ (.string (bs x))) (g4 + 1) #[.int .i64 2, .string (⟨#[]⟩ : ByteArray), .int .i64 nb, .int .i64 rm, .int .i64 rc, .int .i64 nd, .string (bs x), .int .i64 0, .int .i64 0, .string (⟨#[]⟩ : ByteArray), .int .i64 0, .int .i64 0, .slice none 0 0] 28 from (unhide O2).set 6 (.string (bs x)))
        have q5 : (w2.setCell ⟨g4 + 1, 6, none⟩ (.string (bs x))).cell? ⟨g, 4, none⟩ = some (.string (bs x)) := Kp.cell (below_sc (unhide K2) (g4 + 1) 6 (.string (bs x)) (by omega)) (Kp.cell (unhide HB1) h4)
        have K3 := hide (show Kp W1 (w2.setCell ⟨g4 + 1, 6, none⟩ (.string (bs x))) from below_sc (unhide K2) (g4 + 1) 6 (.string (bs x)) (by omega))
        cases ro
        case false =>
          go_wp2
          go_meet
          exact ⟨rfl, O3, K3⟩
        case true =>
          have CN := hide (unhide CNM x hx)
          obtain ⟨nk, hnk⟩ : ∃ r, nameOk x = r := ⟨_, rfl⟩
          rw [hnk] at CN
          have HNK := hide hnk
          clear hnk h4 hx
          go_wp2_with fail
          refine (unhide CN _).mono ?_
          rintro e3 w3 ⟨rfl, rfl⟩
          go_wp2
          go_meet
          exact ⟨by rw [nodeOk, unhide HNK]; rfl, O3, K3⟩
    case rest =>
      obtain ⟨rfl, O3, K3⟩ := hcut
      obtain ⟨w3, rfl⟩ : ∃ w3, w3 = wc := ⟨wc, rfl⟩
      have q0 := Kp.cell (unhide K3) (Kp.cell (unhide HB1) (unhide H0))
      have HB3 := hide (below_on (unhide HB1) (unhide K3))
      have R3 := hide ((unhide R1).below (unhide K3))
      obtain ⟨nx, hnx⟩ : ∃ x, e.getD [] = x := ⟨_, rfl⟩
      rw [hnx] at O3 HRD
      obtain ⟨ok, hok⟩ : ∃ x, (ro && nodeOk e) = x := ⟨_, rfl⟩
      rw [hok] at HRD ⊢
      clear hnx hok O2 K2 H4 HN CNM V1
      have o0 := (unhide O3).at 0; have o1 := (unhide O3).at 1; have o2 := (unhide O3).at 2; have o3 := (unhide O3).at 3; have o4 := (unhide O3).at 4; have o5 := (unhide O3).at 5; have o6 := (unhide O3).at 6; have o7 := (unhide O3).at 7; have o8 := (unhide O3).at 8; have o9 := (unhide O3).at 9; have o10 := (unhide O3).at 10; have o11 := (unhide O3).at 11; have o12 := (unhide O3).at 12
      have fo0 := (unhide O3).f 0; have fo1 := (unhide O3).f 1; have fo2 := (unhide O3).f 2; have fo3 := (unhide O3).f 3; have fo4 := (unhide O3).f 4; have fo5 := (unhide O3).f 5; have fo6 := (unhide O3).f 6; have fo7 := (unhide O3).f 7; have fo8 := (unhide O3).f 8; have fo9 := (unhide O3).f 9; have fo10 := (unhide O3).f 10; have fo11 := (unhide O3).f 11; have fo12 := (unhide O3).f 12
      simp at o0 o1 o2 o3 o4 o5 o6 o7 o8 o9 o10 o11 o12
      have k0 := (unhide R3).at 0; have k1 := (unhide R3).at 1; have k2 := (unhide R3).at 2; have k3 := (unhide R3).at 3; have k4 := (unhide R3).at 4; have k5 := (unhide R3).at 5; have k6 := (unhide R3).at 6; have k7 := (unhide R3).at 7; have k8 := (unhide R3).at 8; have k9 := (unhide R3).at 9; have k10 := (unhide R3).at 10; have k11 := (unhide R3).at 11; have k12 := (unhide R3).at 12
      have fk0 := (unhide R3).f 0; have fk1 := (unhide R3).f 1; have fk2 := (unhide R3).f 2; have fk3 := (unhide R3).f 3; have fk4 := (unhide R3).f 4; have fk5 := (unhide R3).f 5; have fk6 := (unhide R3).f 6; have fk7 := (unhide R3).f 7; have fk8 := (unhide R3).f 8; have fk9 := (unhide R3).f 9; have fk10 := (unhide R3).f 10; have fk11 := (unhide R3).f 11; have fk12 := (unhide R3).f 12
      simp at k0 k1 k2 k3 k4 k5 k6 k7 k8 k9 k10 k11 k12
      have HX := hide (show Blk ((((((((((((((w3.setCell ⟨w.heap.size, 0, none⟩ (.int .i64 2)).setCell ⟨w.heap.size, 1, none⟩ (.string (⟨#[]⟩ : ByteArray))).setCell ⟨w.heap.size, 2, none⟩ (.int .i64 nb)).setCell ⟨w.heap.size, 3, none⟩ (.int .i64 rm)).setCell ⟨w.heap.size, 4, none⟩ (.int .i64 rc)).setCell ⟨w.heap.size, 5, none⟩ (.int .i64 nd)).setCell ⟨w.heap.size, 6, none⟩ (.string (bs nx))).setCell ⟨w.heap.size, 7, none⟩ (.int .i64 0)).setCell ⟨w.heap.size, 8, none⟩ (.int .i64 0)).setCell ⟨w.heap.size, 9, none⟩ (.string (⟨#[]⟩ : ByteArray))).setCell ⟨w.heap.size, 10, none⟩ (.int .i64 0)).setCell ⟨w.heap.size, 11, none⟩ (.int .i64 0)).setCell ⟨w.heap.size, 12, none⟩ (.slice none 0 0)).drew) (w.heap.size) #[.int .i64 2, .string (⟨#[]⟩ : ByteArray), .int .i64 nb, .int .i64 rm, .int .i64 rc, .int .i64 nd, .string (bs nx), .int .i64 0, .int .i64 0, .string (⟨#[]⟩ : ByteArray), .int .i64 0, .int .i64 0, .slice none 0 0] 28 from (Blk.sets (unhide R3) [.int .i64 2, .string (⟨#[]⟩ : ByteArray), .int .i64 nb, .int .i64 rm, .int .i64 rc, .int .i64 nd, .string (bs nx), .int .i64 0, .int .i64 0, .string (⟨#[]⟩ : ByteArray), .int .i64 0, .int .i64 0, .slice none 0 0] rfl).drew)
      have HY := hide (show Below w.heap.size w ((((((((((((((w3.setCell ⟨w.heap.size, 0, none⟩ (.int .i64 2)).setCell ⟨w.heap.size, 1, none⟩ (.string (⟨#[]⟩ : ByteArray))).setCell ⟨w.heap.size, 2, none⟩ (.int .i64 nb)).setCell ⟨w.heap.size, 3, none⟩ (.int .i64 rm)).setCell ⟨w.heap.size, 4, none⟩ (.int .i64 rc)).setCell ⟨w.heap.size, 5, none⟩ (.int .i64 nd)).setCell ⟨w.heap.size, 6, none⟩ (.string (bs nx))).setCell ⟨w.heap.size, 7, none⟩ (.int .i64 0)).setCell ⟨w.heap.size, 8, none⟩ (.int .i64 0)).setCell ⟨w.heap.size, 9, none⟩ (.string (⟨#[]⟩ : ByteArray))).setCell ⟨w.heap.size, 10, none⟩ (.int .i64 0)).setCell ⟨w.heap.size, 11, none⟩ (.int .i64 0)).setCell ⟨w.heap.size, 12, none⟩ (.slice none 0 0)).drew) from (below_sets (unhide HB3) (g := w.heap.size) (by omega) 0 [.int .i64 2, .string (⟨#[]⟩ : ByteArray), .int .i64 nb, .int .i64 rm, .int .i64 rc, .int .i64 nd, .string (bs nx), .int .i64 0, .int .i64 0, .string (⟨#[]⟩ : ByteArray), .int .i64 0, .int .i64 0, .slice none 0 0]).drew)
      have S3 := hide (show HBk w [(g4 + 1, #[.int .i64 2, .string (⟨#[]⟩ : ByteArray), .int .i64 nb, .int .i64 rm, .int .i64 rc, .int .i64 nd, .string (bs nx), .int .i64 0, .int .i64 0, .string (⟨#[]⟩ : ByteArray), .int .i64 0, .int .i64 0, .slice none 0 0], 28)] w3 from ⟨fun p hp => by
        simp only [List.mem_cons, List.not_mem_nil, or_false] at hp
        subst hp
        exact unhide O3, unhide HB3⟩)
      have SB := (show HBk w [(g4 + 1, #[.int .i64 2, .string (⟨#[]⟩ : ByteArray), .int .i64 nb, .int .i64 rm, .int .i64 rc, .int .i64 nd, .string (bs nx), .int .i64 0, .int .i64 0, .string (⟨#[]⟩ : ByteArray), .int .i64 0, .int .i64 0, .slice none 0 0], 28)] ((((((((((((((w3.setCell ⟨w.heap.size, 0, none⟩ (.int .i64 2)).setCell ⟨w.heap.size, 1, none⟩ (.string (⟨#[]⟩ : ByteArray))).setCell ⟨w.heap.size, 2, none⟩ (.int .i64 nb)).setCell ⟨w.heap.size, 3, none⟩ (.int .i64 rm)).setCell ⟨w.heap.size, 4, none⟩ (.int .i64 rc)).setCell ⟨w.heap.size, 5, none⟩ (.int .i64 nd)).setCell ⟨w.heap.size, 6, none⟩ (.string (bs nx))).setCell ⟨w.heap.size, 7, none⟩ (.int .i64 0)).setCell ⟨w.heap.size, 8, none⟩ (.int .i64 0)).setCell ⟨w.heap.size, 9, none⟩ (.string (⟨#[]⟩ : ByteArray))).setCell ⟨w.heap.size, 10, none⟩ (.int .i64 0)).setCell ⟨w.heap.size, 11, none⟩ (.int .i64 0)).setCell ⟨w.heap.size, 12, none⟩ (.slice none 0 0)).drew) from ⟨fun p hp => by
        simp only [List.mem_cons, List.not_mem_nil, or_false] at hp
        subst hp
        exact ((unhide O3).other_sets (fun h => hgg h.symm) 0 [.int .i64 2, .string (⟨#[]⟩ : ByteArray), .int .i64 nb, .int .i64 rm, .int .i64 rc, .int .i64 nd, .string (bs nx), .int .i64 0, .int .i64 0, .string (⟨#[]⟩ : ByteArray), .int .i64 0, .int .i64 0, .slice none 0 0]).drew, unhide HY⟩)
      have R : ∀ wx, HBk w [(g4 + 1, #[.int .i64 2, .string (⟨#[]⟩ : ByteArray), .int .i64 nb, .int .i64 rm, .int .i64 rc, .int .i64 nd, .string (bs nx), .int .i64 0, .int .i64 0, .string (⟨#[]⟩ : ByteArray), .int .i64 0, .int .i64 0, .slice none 0 0], 28)] wx → wx.cell? ⟨g, 0, none⟩ = some (.string (bs a)) ∧ wx.cell? ⟨g4 + 1, 0, none⟩ = some (.int .i64 2) ∧ wx.cell? ⟨g4 + 1, 1, none⟩ = some (.string (⟨#[]⟩ : ByteArray)) ∧ wx.cell? ⟨g4 + 1, 2, none⟩ = some (.int .i64 nb) ∧ wx.cell? ⟨g4 + 1, 3, none⟩ = some (.int .i64 rm) ∧ wx.cell? ⟨g4 + 1, 4, none⟩ = some (.int .i64 rc) ∧ wx.cell? ⟨g4 + 1, 5, none⟩ = some (.int .i64 nd) ∧ wx.cell? ⟨g4 + 1, 6, none⟩ = some (.string (bs nx)) ∧ wx.cell? ⟨g4 + 1, 7, none⟩ = some (.int .i64 0) ∧ wx.cell? ⟨g4 + 1, 8, none⟩ = some (.int .i64 0) ∧ wx.cell? ⟨g4 + 1, 9, none⟩ = some (.string (⟨#[]⟩ : ByteArray)) ∧ wx.cell? ⟨g4 + 1, 10, none⟩ = some (.int .i64 0) ∧ wx.cell? ⟨g4 + 1, 11, none⟩ = some (.int .i64 0) ∧ wx.cell? ⟨g4 + 1, 12, none⟩ = some (.slice none 0 0) := fun wx h => by
        have v1 := h.blk (g := g4 + 1) (c := #[.int .i64 2, .string (⟨#[]⟩ : ByteArray), .int .i64 nb, .int .i64 rm, .int .i64 rc, .int .i64 nd, .string (bs nx), .int .i64 0, .int .i64 0, .string (⟨#[]⟩ : ByteArray), .int .i64 0, .int .i64 0, .slice none 0 0]) (t := 28) (by simp)
        exact ⟨h.cell (unhide H0), by simpa using v1.at 0, by simpa using v1.at 1, by simpa using v1.at 2, by simpa using v1.at 3, by simpa using v1.at 4, by simpa using v1.at 5, by simpa using v1.at 6, by simpa using v1.at 7, by simpa using v1.at 8, by simpa using v1.at 9, by simpa using v1.at 10, by simpa using v1.at 11, by simpa using v1.at 12⟩
      clear q0 o0 fo0 o1 fo1 o2 fo2 o3 fo3 o4 fo4 o5 fo5 o6 fo6 o7 fo7 o8 fo8 o9 fo9 o10 fo10 o11 fo11 o12 fo12
      go_upto_region 6 with fail
      refine wp_region_held_drew (S := fun wx => HBk w [(g4 + 1, #[.int .i64 2, .string (⟨#[]⟩ : ByteArray), .int .i64 nb, .int .i64 rm, .int .i64 rc, .int .i64 nd, .string (bs nx), .int .i64 0, .int .i64 0, .string (⟨#[]⟩ : ByteArray), .int .i64 0, .int .i64 0, .slice none 0 0], 28)] wx) (by kernel_rfl) (unhide S3).drew (fun S0 => ?_)
      refine takeD (i := 0) (d := some 40) (v := _) rfl rfl (by kernel_rfl) (by kernel_rfl) (by kernel_rfl) (fun _ _ _ h => h) (Or.inl ⟨by rfl, fun wz hz => by (go_simp; try with_reducible rfl)⟩) S0 ?_
      try simp only [Act.put, List.setIfInBounds_toArray, List.set_cons_zero, List.set_cons_succ]
      refine takeD (i := 1) (d := some 41) (v := _) rfl rfl (by kernel_rfl) (by kernel_rfl) (by kernel_rfl) (fun _ _ _ h => h) (Or.inl ⟨by rfl, fun wz hz => by (go_simp; try with_reducible rfl)⟩) S0 ?_
      try simp only [Act.put, List.setIfInBounds_toArray, List.set_cons_zero, List.set_cons_succ]
      refine takeD (i := 2) (d := some 42) (v := _) rfl rfl (by kernel_rfl) (by kernel_rfl) (by kernel_rfl) (fun _ _ _ h => h) (Or.inl ⟨by rfl, fun wz hz => by (go_simp; try with_reducible rfl)⟩) S0 ?_
      try simp only [Act.put, List.setIfInBounds_toArray, List.set_cons_zero, List.set_cons_succ]
      cases ok
      case false =>
        refine takeD (i := 3) (d := some 43) (v := undef) rfl rfl (by kernel_rfl) (by kernel_rfl) (by kernel_rfl) (fun _ _ _ h => h) (Or.inr ⟨by rfl, rfl⟩) S0 ?_
        try simp only [Act.put, List.setIfInBounds_toArray, List.set_cons_zero, List.set_cons_succ]
        refine takeD (i := 4) (d := some 44) (v := undef) rfl rfl (by kernel_rfl) (by kernel_rfl) (by kernel_rfl) (fun _ _ _ h => h) (Or.inr ⟨by rfl, rfl⟩) S0 ?_
        try simp only [Act.put, List.setIfInBounds_toArray, List.set_cons_zero, List.set_cons_succ]
        refine takeD (i := 5) (d := some 45) (v := undef) rfl rfl (by kernel_rfl) (by kernel_rfl) (by kernel_rfl) (fun _ _ _ h => h) (Or.inr ⟨by rfl, rfl⟩) S0 ?_
        try simp only [Act.put, List.setIfInBounds_toArray, List.set_cons_zero, List.set_cons_succ]
        refine takeD (i := 6) (d := some 46) (v := undef) rfl rfl (by kernel_rfl) (by kernel_rfl) (by kernel_rfl) (fun _ _ _ h => h) (Or.inr ⟨by rfl, rfl⟩) S0 ?_
        try simp only [Act.put, List.setIfInBounds_toArray, List.set_cons_zero, List.set_cons_succ]
        refine takeD (i := 7) (d := some 47) (v := _) rfl rfl (by kernel_rfl) (by kernel_rfl) (by kernel_rfl) (fun _ _ _ h => h) (Or.inl ⟨by rfl, fun wz hz => by (go_simp; try with_reducible rfl)⟩) S0 ?_
        try simp only [Act.put, List.setIfInBounds_toArray, List.set_cons_zero, List.set_cons_succ]
        refine takeD (i := 8) (d := some 48) (v := _) rfl rfl (by kernel_rfl) (by kernel_rfl) (by kernel_rfl) (fun _ _ _ h => h) (Or.inl ⟨by rfl, fun wz hz => by (go_simp; try with_reducible rfl)⟩) S0 ?_
        try simp only [Act.put, List.setIfInBounds_toArray, List.set_cons_zero, List.set_cons_succ]
        refine takeD (i := 9) (d := some 49) (v := undef) rfl rfl (by kernel_rfl) (by kernel_rfl) (by kernel_rfl) (fun _ _ _ h => h) (Or.inr ⟨by rfl, rfl⟩) S0 ?_
        try simp only [Act.put, List.setIfInBounds_toArray, List.set_cons_zero, List.set_cons_succ]
        refine takeD (i := 10) (d := some 50) (v := undef) rfl rfl (by kernel_rfl) (by kernel_rfl) (by kernel_rfl) (fun _ _ _ h => h) (Or.inr ⟨by rfl, rfl⟩) S0 ?_
        try simp only [Act.put, List.setIfInBounds_toArray, List.set_cons_zero, List.set_cons_succ]
        refine takeD (i := 11) (d := some 51) (v := undef) rfl rfl (by kernel_rfl) (by kernel_rfl) (by kernel_rfl) (fun _ _ _ h => h) (Or.inr ⟨by rfl, rfl⟩) S0 ?_
        try simp only [Act.put, List.setIfInBounds_toArray, List.set_cons_zero, List.set_cons_succ]
        refine takeD (i := 12) (d := some 52) (v := _) rfl rfl (by kernel_rfl) (by kernel_rfl) (by kernel_rfl) (fun _ _ _ h => h) (Or.inl ⟨by rfl, fun wz hz => by (go_simp; try with_reducible rfl)⟩) S0 ?_
        try simp only [Act.put, List.setIfInBounds_toArray, List.set_cons_zero, List.set_cons_succ]
        refine takeD (i := 13) (d := some 53) (v := _) rfl rfl (by kernel_rfl) (by kernel_rfl) (by kernel_rfl) (fun _ _ _ h => h) (Or.inl ⟨by rfl, fun wz hz => by (go_simp; try with_reducible rfl)⟩) S0 ?_
        try simp only [Act.put, List.setIfInBounds_toArray, List.set_cons_zero, List.set_cons_succ]
        refine takeD (i := 14) (d := some 54) (v := undef) rfl rfl (by kernel_rfl) (by kernel_rfl) (by kernel_rfl) (fun _ _ _ h => h) (Or.inr ⟨by rfl, rfl⟩) S0 ?_
        try simp only [Act.put, List.setIfInBounds_toArray, List.set_cons_zero, List.set_cons_succ]
        refine takeD (i := 15) (d := some 55) (v := undef) rfl rfl (by kernel_rfl) (by kernel_rfl) (by kernel_rfl) (fun _ _ _ h => h) (Or.inr ⟨by rfl, rfl⟩) S0 ?_
        try simp only [Act.put, List.setIfInBounds_toArray, List.set_cons_zero, List.set_cons_succ]
        refine takeD (i := 16) (d := some 56) (v := undef) rfl rfl (by kernel_rfl) (by kernel_rfl) (by kernel_rfl) (fun _ _ _ h => h) (Or.inr ⟨by rfl, rfl⟩) S0 ?_
        try simp only [Act.put, List.setIfInBounds_toArray, List.set_cons_zero, List.set_cons_succ]
        refine takeD (i := 17) (d := some 57) (v := undef) rfl rfl (by kernel_rfl) (by kernel_rfl) (by kernel_rfl) (fun _ _ _ h => h) (Or.inr ⟨by rfl, rfl⟩) S0 ?_
        try simp only [Act.put, List.setIfInBounds_toArray, List.set_cons_zero, List.set_cons_succ]
        refine takeD (i := 18) (d := some 58) (v := _) rfl rfl (by kernel_rfl) (by kernel_rfl) (by kernel_rfl) (fun _ _ _ h => h) (Or.inl ⟨by rfl, fun wz hz => by (go_simp; try with_reducible rfl)⟩) S0 ?_
        try simp only [Act.put, List.setIfInBounds_toArray, List.set_cons_zero, List.set_cons_succ]
        refine wpAnyH_ready (rs := [19]) (by kernel_rfl) (by simp) (AllReadyH.cons rfl (fun K hK => ?_) AllReadyH.nil)
        go_simp
        go_wp2_with fail
        refine hK.out _ _ SB (fun S0 => ?_)
        clear hK K
        try simp only [Act.put, List.setIfInBounds_toArray, List.set_cons_zero, List.set_cons_succ]
        refine takeD (i := 20) (d := some 3) (v := _) rfl rfl (by kernel_rfl) (by kernel_rfl) (by kernel_rfl) (fun _ _ _ h => h) (Or.inl ⟨by rfl, fun wz hz => by (go_simp; try with_reducible rfl)⟩) S0 ?_
        try simp only [Act.put, List.setIfInBounds_toArray, List.set_cons_zero, List.set_cons_succ]
        refine wpAnyH_done (by kernel_rfl) ?_ _
        have HE := hide (show rr = (⟨2, [], nb, ⟨rm, rc, nd, nx, 0⟩, 0, [], 0, 0, []⟩, false) from by rw [unhide HRD]; simp)
        clear R SB S0 k0 fk0 k1 fk1 k2 fk2 k3 fk3 k4 fk4 k5 fk5 k6 fk6 k7 fk7 k8 fk8 k9 fk9 k10 fk10 k11 fk11 k12 fk12
        go_wp2
        generalize ((((((((((((((w3.setCell ⟨w.heap.size, 0, none⟩ (.int .i64 2)).setCell ⟨w.heap.size, 1, none⟩ (.string (⟨#[]⟩ : ByteArray))).setCell ⟨w.heap.size, 2, none⟩ (.int .i64 nb)).setCell ⟨w.heap.size, 3, none⟩ (.int .i64 rm)).setCell ⟨w.heap.size, 4, none⟩ (.int .i64 rc)).setCell ⟨w.heap.size, 5, none⟩ (.int .i64 nd)).setCell ⟨w.heap.size, 6, none⟩ (.string (bs nx))).setCell ⟨w.heap.size, 7, none⟩ (.int .i64 0)).setCell ⟨w.heap.size, 8, none⟩ (.int .i64 0)).setCell ⟨w.heap.size, 9, none⟩ (.string (⟨#[]⟩ : ByteArray))).setCell ⟨w.heap.size, 10, none⟩ (.int .i64 0)).setCell ⟨w.heap.size, 11, none⟩ (.int .i64 0)).setCell ⟨w.heap.size, 12, none⟩ (.slice none 0 0)).drew) = W9 at HX HY ⊢
        have z0 := (unhide HX).at 0; have z1 := (unhide HX).at 1; have z2 := (unhide HX).at 2; have z3 := (unhide HX).at 3; have z4 := (unhide HX).at 4; have z5 := (unhide HX).at 5; have z6 := (unhide HX).at 6; have z7 := (unhide HX).at 7; have z8 := (unhide HX).at 8; have z9 := (unhide HX).at 9; have z10 := (unhide HX).at 10; have z11 := (unhide HX).at 11; have z12 := (unhide HX).at 12
        simp at z0 z1 z2 z3 z4 z5 z6 z7 z8 z9 z10 z11 z12
        refine bodyPost_ret (v := .tuple #[opv ⟨2, [], nb, ⟨rm, rc, nd, nx, 0⟩, 0, [], 0, 0, []⟩ none 0 0, .bool false]) (by simp [results, Tryd.results31, go_sem, z0, z1, z2, z3, z4, z5, z6, z7, z8, z9, z10, z11, z12]; try rfl) rfl ⟨by rw [unhide HE], unhide HY⟩
      cases ia
      case false =>
        refine takeD (i := 3) (d := some 43) (v := _) rfl rfl (by kernel_rfl) (by kernel_rfl) (by kernel_rfl) (fun _ _ _ h => h) (Or.inl ⟨by rfl, fun wz hz => by (go_simp; try with_reducible rfl)⟩) S0 ?_
        try simp only [Act.put, List.setIfInBounds_toArray, List.set_cons_zero, List.set_cons_succ]
        refine takeD (i := 4) (d := some 44) (v := _) rfl rfl (by kernel_rfl) (by kernel_rfl) (by kernel_rfl) (fun _ _ _ h => h) (Or.inl ⟨by rfl, fun wz hz => by (go_simp; try with_reducible rfl)⟩) S0 ?_
        try simp only [Act.put, List.setIfInBounds_toArray, List.set_cons_zero, List.set_cons_succ]
        refine takeD (i := 5) (d := some 45) (v := _) rfl rfl (by kernel_rfl) (by kernel_rfl) (by kernel_rfl) (fun _ _ _ h => h) (Or.inl ⟨by rfl, fun wz hz => by (go_simp; try with_reducible rfl)⟩) S0 ?_
        try simp only [Act.put, List.setIfInBounds_toArray, List.set_cons_zero, List.set_cons_succ]
        refine takeD (i := 6) (d := some 46) (v := _) rfl rfl (by kernel_rfl) (by kernel_rfl) (by kernel_rfl) (fun _ _ _ h => h) (Or.inl ⟨by rfl, fun wz hz => by (go_simp; try with_reducible rfl)⟩) S0 ?_
        try simp only [Act.put, List.setIfInBounds_toArray, List.set_cons_zero, List.set_cons_succ]
        refine takeD (i := 7) (d := some 47) (v := _) rfl rfl (by kernel_rfl) (by kernel_rfl) (by kernel_rfl) (fun _ _ _ h => h) (Or.inl ⟨by rfl, fun wz hz => by (go_simp; try with_reducible rfl)⟩) S0 ?_
        try simp only [Act.put, List.setIfInBounds_toArray, List.set_cons_zero, List.set_cons_succ]
        refine takeD (i := 8) (d := some 48) (v := _) rfl rfl (by kernel_rfl) (by kernel_rfl) (by kernel_rfl) (fun _ _ _ h => h) (Or.inl ⟨by rfl, fun wz hz => by (go_simp; try with_reducible rfl)⟩) S0 ?_
        try simp only [Act.put, List.setIfInBounds_toArray, List.set_cons_zero, List.set_cons_succ]
        refine takeD (i := 9) (d := some 49) (v := undef) rfl rfl (by kernel_rfl) (by kernel_rfl) (by kernel_rfl) (fun _ _ _ h => h) (Or.inr ⟨by rfl, rfl⟩) S0 ?_
        try simp only [Act.put, List.setIfInBounds_toArray, List.set_cons_zero, List.set_cons_succ]
        refine takeD (i := 10) (d := some 50) (v := undef) rfl rfl (by kernel_rfl) (by kernel_rfl) (by kernel_rfl) (fun _ _ _ h => h) (Or.inr ⟨by rfl, rfl⟩) S0 ?_
        try simp only [Act.put, List.setIfInBounds_toArray, List.set_cons_zero, List.set_cons_succ]
        refine takeD (i := 11) (d := some 51) (v := undef) rfl rfl (by kernel_rfl) (by kernel_rfl) (by kernel_rfl) (fun _ _ _ h => h) (Or.inr ⟨by rfl, rfl⟩) S0 ?_
        try simp only [Act.put, List.setIfInBounds_toArray, List.set_cons_zero, List.set_cons_succ]
        refine takeD (i := 12) (d := some 52) (v := _) rfl rfl (by kernel_rfl) (by kernel_rfl) (by kernel_rfl) (fun _ _ _ h => h) (Or.inl ⟨by rfl, fun wz hz => by (go_simp; try with_reducible rfl)⟩) S0 ?_
        try simp only [Act.put, List.setIfInBounds_toArray, List.set_cons_zero, List.set_cons_succ]
        refine takeD (i := 13) (d := some 53) (v := _) rfl rfl (by kernel_rfl) (by kernel_rfl) (by kernel_rfl) (fun _ _ _ h => h) (Or.inl ⟨by rfl, fun wz hz => by (go_simp; try with_reducible rfl)⟩) S0 ?_
        try simp only [Act.put, List.setIfInBounds_toArray, List.set_cons_zero, List.set_cons_succ]
        refine takeD (i := 14) (d := some 54) (v := undef) rfl rfl (by kernel_rfl) (by kernel_rfl) (by kernel_rfl) (fun _ _ _ h => h) (Or.inr ⟨by rfl, rfl⟩) S0 ?_
        try simp only [Act.put, List.setIfInBounds_toArray, List.set_cons_zero, List.set_cons_succ]
        refine takeD (i := 15) (d := some 55) (v := undef) rfl rfl (by kernel_rfl) (by kernel_rfl) (by kernel_rfl) (fun _ _ _ h => h) (Or.inr ⟨by rfl, rfl⟩) S0 ?_
        try simp only [Act.put, List.setIfInBounds_toArray, List.set_cons_zero, List.set_cons_succ]
        refine takeD (i := 16) (d := some 56) (v := undef) rfl rfl (by kernel_rfl) (by kernel_rfl) (by kernel_rfl) (fun _ _ _ h => h) (Or.inr ⟨by rfl, rfl⟩) S0 ?_
        try simp only [Act.put, List.setIfInBounds_toArray, List.set_cons_zero, List.set_cons_succ]
        refine takeD (i := 17) (d := some 57) (v := undef) rfl rfl (by kernel_rfl) (by kernel_rfl) (by kernel_rfl) (fun _ _ _ h => h) (Or.inr ⟨by rfl, rfl⟩) S0 ?_
        try simp only [Act.put, List.setIfInBounds_toArray, List.set_cons_zero, List.set_cons_succ]
        refine takeD (i := 18) (d := some 58) (v := _) rfl rfl (by kernel_rfl) (by kernel_rfl) (by kernel_rfl) (fun _ _ _ h => h) (Or.inl ⟨by rfl, fun wz hz => by (go_simp; try with_reducible rfl)⟩) S0 ?_
        try simp only [Act.put, List.setIfInBounds_toArray, List.set_cons_zero, List.set_cons_succ]
        refine wpAnyH_ready (rs := [19]) (by kernel_rfl) (by simp) (AllReadyH.cons rfl (fun K hK => ?_) AllReadyH.nil)
        go_simp
        go_wp2_with fail
        refine hK.out _ _ SB (fun S0 => ?_)
        clear hK K
        try simp only [Act.put, List.setIfInBounds_toArray, List.set_cons_zero, List.set_cons_succ]
        refine takeD (i := 20) (d := some 3) (v := _) rfl rfl (by kernel_rfl) (by kernel_rfl) (by kernel_rfl) (fun _ _ _ h => h) (Or.inl ⟨by rfl, fun wz hz => by (go_simp; try with_reducible rfl)⟩) S0 ?_
        try simp only [Act.put, List.setIfInBounds_toArray, List.set_cons_zero, List.set_cons_succ]
        refine wpAnyH_done (by kernel_rfl) ?_ _
        have HE := hide (show rr = (⟨2, [], nb, ⟨rm, rc, nd, nx, 0⟩, 0, [], 0, 0, []⟩, false) from by rw [unhide HRD]; simp)
        clear R SB S0 k0 fk0 k1 fk1 k2 fk2 k3 fk3 k4 fk4 k5 fk5 k6 fk6 k7 fk7 k8 fk8 k9 fk9 k10 fk10 k11 fk11 k12 fk12
        go_wp2
        generalize ((((((((((((((w3.setCell ⟨w.heap.size, 0, none⟩ (.int .i64 2)).setCell ⟨w.heap.size, 1, none⟩ (.string (⟨#[]⟩ : ByteArray))).setCell ⟨w.heap.size, 2, none⟩ (.int .i64 nb)).setCell ⟨w.heap.size, 3, none⟩ (.int .i64 rm)).setCell ⟨w.heap.size, 4, none⟩ (.int .i64 rc)).setCell ⟨w.heap.size, 5, none⟩ (.int .i64 nd)).setCell ⟨w.heap.size, 6, none⟩ (.string (bs nx))).setCell ⟨w.heap.size, 7, none⟩ (.int .i64 0)).setCell ⟨w.heap.size, 8, none⟩ (.int .i64 0)).setCell ⟨w.heap.size, 9, none⟩ (.string (⟨#[]⟩ : ByteArray))).setCell ⟨w.heap.size, 10, none⟩ (.int .i64 0)).setCell ⟨w.heap.size, 11, none⟩ (.int .i64 0)).setCell ⟨w.heap.size, 12, none⟩ (.slice none 0 0)).drew) = W9 at HX HY ⊢
        have z0 := (unhide HX).at 0; have z1 := (unhide HX).at 1; have z2 := (unhide HX).at 2; have z3 := (unhide HX).at 3; have z4 := (unhide HX).at 4; have z5 := (unhide HX).at 5; have z6 := (unhide HX).at 6; have z7 := (unhide HX).at 7; have z8 := (unhide HX).at 8; have z9 := (unhide HX).at 9; have z10 := (unhide HX).at 10; have z11 := (unhide HX).at 11; have z12 := (unhide HX).at 12
        simp at z0 z1 z2 z3 z4 z5 z6 z7 z8 z9 z10 z11 z12
        refine bodyPost_ret (v := .tuple #[opv ⟨2, [], nb, ⟨rm, rc, nd, nx, 0⟩, 0, [], 0, 0, []⟩ none 0 0, .bool false]) (by simp [results, Tryd.results31, go_sem, z0, z1, z2, z3, z4, z5, z6, z7, z8, z9, z10, z11, z12]; try rfl) rfl ⟨by rw [unhide HE], unhide HY⟩
      by_cases hb0 : 0 ≤ nb
      case neg =>
        refine takeD (i := 3) (d := some 43) (v := _) rfl rfl (by kernel_rfl) (by kernel_rfl) (by kernel_rfl) (fun _ _ _ h => h) (Or.inl ⟨by rfl, fun wz hz => by (go_simp; try with_reducible rfl)⟩) S0 ?_
        try simp only [Act.put, List.setIfInBounds_toArray, List.set_cons_zero, List.set_cons_succ]
        refine takeD (i := 4) (d := some 44) (v := _) rfl rfl (by kernel_rfl) (by kernel_rfl) (by kernel_rfl) (fun _ _ _ h => h) (Or.inl ⟨by rfl, fun wz hz => by (go_simp; try with_reducible rfl)⟩) S0 ?_
        try simp only [Act.put, List.setIfInBounds_toArray, List.set_cons_zero, List.set_cons_succ]
        refine takeD (i := 5) (d := some 45) (v := _) rfl rfl (by kernel_rfl) (by kernel_rfl) (by kernel_rfl) (fun _ _ _ h => h) (Or.inl ⟨by rfl, fun wz hz => by (go_simp; try with_reducible rfl)⟩) S0 ?_
        try simp only [Act.put, List.setIfInBounds_toArray, List.set_cons_zero, List.set_cons_succ]
        refine takeD (i := 6) (d := some 46) (v := _) rfl rfl (by kernel_rfl) (by kernel_rfl) (by kernel_rfl) (fun _ _ _ h => h) (Or.inl ⟨by rfl, fun wz hz => by (go_simp; try with_reducible rfl)⟩) S0 ?_
        try simp only [Act.put, List.setIfInBounds_toArray, List.set_cons_zero, List.set_cons_succ]
        refine takeD (i := 7) (d := some 47) (v := _) rfl rfl (by kernel_rfl) (by kernel_rfl) (by kernel_rfl) (fun _ _ _ h => h) (Or.inl ⟨by rfl, fun wz hz => by (go_simp; try with_reducible rfl)⟩) S0 ?_
        try simp only [Act.put, List.setIfInBounds_toArray, List.set_cons_zero, List.set_cons_succ]
        refine takeD (i := 8) (d := some 48) (v := _) rfl rfl (by kernel_rfl) (by kernel_rfl) (by kernel_rfl) (fun _ _ _ h => h) (Or.inl ⟨by rfl, fun wz hz => by (go_simp; try with_reducible rfl)⟩) S0 ?_
        try simp only [Act.put, List.setIfInBounds_toArray, List.set_cons_zero, List.set_cons_succ]
        refine takeD (i := 9) (d := some 49) (v := _) rfl rfl (by kernel_rfl) (by kernel_rfl) (by kernel_rfl) (fun _ _ _ h => h) (Or.inl ⟨by rfl, fun wz hz => by (go_simp; try with_reducible rfl)⟩) S0 ?_
        try simp only [Act.put, List.setIfInBounds_toArray, List.set_cons_zero, List.set_cons_succ]
        refine takeD (i := 10) (d := some 50) (v := _) rfl rfl (by kernel_rfl) (by kernel_rfl) (by kernel_rfl) (fun _ _ _ h => h) (Or.inl ⟨by rfl, fun wz hz => by (go_simp; try with_reducible rfl)⟩) S0 ?_
        try simp only [Act.put, List.setIfInBounds_toArray, List.set_cons_zero, List.set_cons_succ]
        refine takeD (i := 11) (d := some 51) (v := _) rfl rfl (by kernel_rfl) (by kernel_rfl) (by kernel_rfl) (fun _ _ _ h => h) (Or.inl ⟨by rfl, fun wz hz => by (go_simp; try with_reducible rfl)⟩) S0 ?_
        try simp only [Act.put, List.setIfInBounds_toArray, List.set_cons_zero, List.set_cons_succ]
        refine takeD (i := 12) (d := some 52) (v := _) rfl rfl (by kernel_rfl) (by kernel_rfl) (by kernel_rfl) (fun _ _ _ h => h) (Or.inl ⟨by rfl, fun wz hz => by (go_simp; try with_reducible rfl)⟩) S0 ?_
        try simp only [Act.put, List.setIfInBounds_toArray, List.set_cons_zero, List.set_cons_succ]
        refine takeD (i := 13) (d := some 53) (v := _) rfl rfl (by kernel_rfl) (by kernel_rfl) (by kernel_rfl) (fun _ _ _ h => h) (Or.inl ⟨by rfl, fun wz hz => by (go_simp; try with_reducible rfl)⟩) S0 ?_
        try simp only [Act.put, List.setIfInBounds_toArray, List.set_cons_zero, List.set_cons_succ]
        refine takeD (i := 14) (d := some 54) (v := undef) rfl rfl (by kernel_rfl) (by kernel_rfl) (by kernel_rfl) (fun _ _ _ h => h) (Or.inr ⟨by rfl, rfl⟩) S0 ?_
        try simp only [Act.put, List.setIfInBounds_toArray, List.set_cons_zero, List.set_cons_succ]
        refine takeD (i := 15) (d := some 55) (v := undef) rfl rfl (by kernel_rfl) (by kernel_rfl) (by kernel_rfl) (fun _ _ _ h => h) (Or.inr ⟨by rfl, rfl⟩) S0 ?_
        try simp only [Act.put, List.setIfInBounds_toArray, List.set_cons_zero, List.set_cons_succ]
        refine takeD (i := 16) (d := some 56) (v := undef) rfl rfl (by kernel_rfl) (by kernel_rfl) (by kernel_rfl) (fun _ _ _ h => h) (Or.inr ⟨by rfl, rfl⟩) S0 ?_
        try simp only [Act.put, List.setIfInBounds_toArray, List.set_cons_zero, List.set_cons_succ]
        refine takeD (i := 17) (d := some 57) (v := undef) rfl rfl (by kernel_rfl) (by kernel_rfl) (by kernel_rfl) (fun _ _ _ h => h) (Or.inr ⟨by rfl, rfl⟩) S0 ?_
        try simp only [Act.put, List.setIfInBounds_toArray, List.set_cons_zero, List.set_cons_succ]
        refine takeD (i := 18) (d := some 58) (v := _) rfl rfl (by kernel_rfl) (by kernel_rfl) (by kernel_rfl) (fun _ _ _ h => h) (Or.inl ⟨by rfl, fun wz hz => by (go_simp; try with_reducible rfl)⟩) S0 ?_
        try simp only [Act.put, List.setIfInBounds_toArray, List.set_cons_zero, List.set_cons_succ]
        refine wpAnyH_ready (rs := [19]) (by kernel_rfl) (by simp) (AllReadyH.cons rfl (fun K hK => ?_) AllReadyH.nil)
        go_simp
        go_wp2_with fail
        refine hK.out _ _ SB (fun S0 => ?_)
        clear hK K
        try simp only [Act.put, List.setIfInBounds_toArray, List.set_cons_zero, List.set_cons_succ]
        refine takeD (i := 20) (d := some 3) (v := _) rfl rfl (by kernel_rfl) (by kernel_rfl) (by kernel_rfl) (fun _ _ _ h => h) (Or.inl ⟨by rfl, fun wz hz => by (go_simp; try with_reducible rfl)⟩) S0 ?_
        try simp only [Act.put, List.setIfInBounds_toArray, List.set_cons_zero, List.set_cons_succ]
        refine wpAnyH_done (by kernel_rfl) ?_ _
        have HE := hide (show rr = (⟨2, [], nb, ⟨rm, rc, nd, nx, 0⟩, 0, [], 0, 0, []⟩, false) from by rw [unhide HRD]; rw [decide_eq_false (show ¬ 0 ≤ nb by omega)]; simp)
        clear R SB S0 k0 fk0 k1 fk1 k2 fk2 k3 fk3 k4 fk4 k5 fk5 k6 fk6 k7 fk7 k8 fk8 k9 fk9 k10 fk10 k11 fk11 k12 fk12
        go_wp2
        generalize ((((((((((((((w3.setCell ⟨w.heap.size, 0, none⟩ (.int .i64 2)).setCell ⟨w.heap.size, 1, none⟩ (.string (⟨#[]⟩ : ByteArray))).setCell ⟨w.heap.size, 2, none⟩ (.int .i64 nb)).setCell ⟨w.heap.size, 3, none⟩ (.int .i64 rm)).setCell ⟨w.heap.size, 4, none⟩ (.int .i64 rc)).setCell ⟨w.heap.size, 5, none⟩ (.int .i64 nd)).setCell ⟨w.heap.size, 6, none⟩ (.string (bs nx))).setCell ⟨w.heap.size, 7, none⟩ (.int .i64 0)).setCell ⟨w.heap.size, 8, none⟩ (.int .i64 0)).setCell ⟨w.heap.size, 9, none⟩ (.string (⟨#[]⟩ : ByteArray))).setCell ⟨w.heap.size, 10, none⟩ (.int .i64 0)).setCell ⟨w.heap.size, 11, none⟩ (.int .i64 0)).setCell ⟨w.heap.size, 12, none⟩ (.slice none 0 0)).drew) = W9 at HX HY ⊢
        have z0 := (unhide HX).at 0; have z1 := (unhide HX).at 1; have z2 := (unhide HX).at 2; have z3 := (unhide HX).at 3; have z4 := (unhide HX).at 4; have z5 := (unhide HX).at 5; have z6 := (unhide HX).at 6; have z7 := (unhide HX).at 7; have z8 := (unhide HX).at 8; have z9 := (unhide HX).at 9; have z10 := (unhide HX).at 10; have z11 := (unhide HX).at 11; have z12 := (unhide HX).at 12
        simp at z0 z1 z2 z3 z4 z5 z6 z7 z8 z9 z10 z11 z12
        refine bodyPost_ret (v := .tuple #[opv ⟨2, [], nb, ⟨rm, rc, nd, nx, 0⟩, 0, [], 0, 0, []⟩ none 0 0, .bool false]) (by simp [results, Tryd.results31, go_sem, z0, z1, z2, z3, z4, z5, z6, z7, z8, z9, z10, z11, z12]; try rfl) rfl ⟨by rw [unhide HE], unhide HY⟩
      by_cases hd0 : 0 ≤ nd
      case neg =>
        refine takeD (i := 3) (d := some 43) (v := _) rfl rfl (by kernel_rfl) (by kernel_rfl) (by kernel_rfl) (fun _ _ _ h => h) (Or.inl ⟨by rfl, fun wz hz => by (go_simp; try with_reducible rfl)⟩) S0 ?_
        try simp only [Act.put, List.setIfInBounds_toArray, List.set_cons_zero, List.set_cons_succ]
        refine takeD (i := 4) (d := some 44) (v := _) rfl rfl (by kernel_rfl) (by kernel_rfl) (by kernel_rfl) (fun _ _ _ h => h) (Or.inl ⟨by rfl, fun wz hz => by (go_simp; try with_reducible rfl)⟩) S0 ?_
        try simp only [Act.put, List.setIfInBounds_toArray, List.set_cons_zero, List.set_cons_succ]
        refine takeD (i := 5) (d := some 45) (v := _) rfl rfl (by kernel_rfl) (by kernel_rfl) (by kernel_rfl) (fun _ _ _ h => h) (Or.inl ⟨by rfl, fun wz hz => by (go_simp; try with_reducible rfl)⟩) S0 ?_
        try simp only [Act.put, List.setIfInBounds_toArray, List.set_cons_zero, List.set_cons_succ]
        refine takeD (i := 6) (d := some 46) (v := _) rfl rfl (by kernel_rfl) (by kernel_rfl) (by kernel_rfl) (fun _ _ _ h => h) (Or.inl ⟨by rfl, fun wz hz => by (go_simp; try with_reducible rfl)⟩) S0 ?_
        try simp only [Act.put, List.setIfInBounds_toArray, List.set_cons_zero, List.set_cons_succ]
        refine takeD (i := 7) (d := some 47) (v := _) rfl rfl (by kernel_rfl) (by kernel_rfl) (by kernel_rfl) (fun _ _ _ h => h) (Or.inl ⟨by rfl, fun wz hz => by (go_simp; try with_reducible rfl)⟩) S0 ?_
        try simp only [Act.put, List.setIfInBounds_toArray, List.set_cons_zero, List.set_cons_succ]
        refine takeD (i := 8) (d := some 48) (v := _) rfl rfl (by kernel_rfl) (by kernel_rfl) (by kernel_rfl) (fun _ _ _ h => h) (Or.inl ⟨by rfl, fun wz hz => by (go_simp; try with_reducible rfl)⟩) S0 ?_
        try simp only [Act.put, List.setIfInBounds_toArray, List.set_cons_zero, List.set_cons_succ]
        refine takeD (i := 9) (d := some 49) (v := _) rfl rfl (by kernel_rfl) (by kernel_rfl) (by kernel_rfl) (fun _ _ _ h => h) (Or.inl ⟨by rfl, fun wz hz => by (go_simp; try with_reducible rfl)⟩) S0 ?_
        try simp only [Act.put, List.setIfInBounds_toArray, List.set_cons_zero, List.set_cons_succ]
        refine takeD (i := 10) (d := some 50) (v := _) rfl rfl (by kernel_rfl) (by kernel_rfl) (by kernel_rfl) (fun _ _ _ h => h) (Or.inl ⟨by rfl, fun wz hz => by (go_simp; try with_reducible rfl)⟩) S0 ?_
        try simp only [Act.put, List.setIfInBounds_toArray, List.set_cons_zero, List.set_cons_succ]
        refine takeD (i := 11) (d := some 51) (v := _) rfl rfl (by kernel_rfl) (by kernel_rfl) (by kernel_rfl) (fun _ _ _ h => h) (Or.inl ⟨by rfl, fun wz hz => by (go_simp; try with_reducible rfl)⟩) S0 ?_
        try simp only [Act.put, List.setIfInBounds_toArray, List.set_cons_zero, List.set_cons_succ]
        refine takeD (i := 12) (d := some 52) (v := _) rfl rfl (by kernel_rfl) (by kernel_rfl) (by kernel_rfl) (fun _ _ _ h => h) (Or.inl ⟨by rfl, fun wz hz => by (go_simp; try with_reducible rfl)⟩) S0 ?_
        try simp only [Act.put, List.setIfInBounds_toArray, List.set_cons_zero, List.set_cons_succ]
        refine takeD (i := 13) (d := some 53) (v := _) rfl rfl (by kernel_rfl) (by kernel_rfl) (by kernel_rfl) (fun _ _ _ h => h) (Or.inl ⟨by rfl, fun wz hz => by (go_simp; try with_reducible rfl)⟩) S0 ?_
        try simp only [Act.put, List.setIfInBounds_toArray, List.set_cons_zero, List.set_cons_succ]
        refine takeD (i := 14) (d := some 54) (v := _) rfl rfl (by kernel_rfl) (by kernel_rfl) (by kernel_rfl) (fun _ _ _ h => h) (Or.inl ⟨by rfl, fun wz hz => by (go_simp; try with_reducible rfl)⟩) S0 ?_
        try simp only [Act.put, List.setIfInBounds_toArray, List.set_cons_zero, List.set_cons_succ]
        refine takeD (i := 15) (d := some 55) (v := _) rfl rfl (by kernel_rfl) (by kernel_rfl) (by kernel_rfl) (fun _ _ _ h => h) (Or.inl ⟨by rfl, fun wz hz => by (go_simp; try with_reducible rfl)⟩) S0 ?_
        try simp only [Act.put, List.setIfInBounds_toArray, List.set_cons_zero, List.set_cons_succ]
        refine takeD (i := 16) (d := some 56) (v := _) rfl rfl (by kernel_rfl) (by kernel_rfl) (by kernel_rfl) (fun _ _ _ h => h) (Or.inl ⟨by rfl, fun wz hz => by (go_simp; try with_reducible rfl)⟩) S0 ?_
        try simp only [Act.put, List.setIfInBounds_toArray, List.set_cons_zero, List.set_cons_succ]
        refine takeD (i := 17) (d := some 57) (v := _) rfl rfl (by kernel_rfl) (by kernel_rfl) (by kernel_rfl) (fun _ _ _ h => h) (Or.inl ⟨by rfl, fun wz hz => by (go_simp; try with_reducible rfl)⟩) S0 ?_
        try simp only [Act.put, List.setIfInBounds_toArray, List.set_cons_zero, List.set_cons_succ]
        refine takeD (i := 18) (d := some 58) (v := _) rfl rfl (by kernel_rfl) (by kernel_rfl) (by kernel_rfl) (fun _ _ _ h => h) (Or.inl ⟨by rfl, fun wz hz => by (go_simp; try with_reducible rfl)⟩) S0 ?_
        try simp only [Act.put, List.setIfInBounds_toArray, List.set_cons_zero, List.set_cons_succ]
        refine wpAnyH_ready (rs := [19]) (by kernel_rfl) (by simp) (AllReadyH.cons rfl (fun K hK => ?_) AllReadyH.nil)
        go_simp
        go_wp2_with fail
        refine hK.out _ _ SB (fun S0 => ?_)
        clear hK K
        try simp only [Act.put, List.setIfInBounds_toArray, List.set_cons_zero, List.set_cons_succ]
        refine takeD (i := 20) (d := some 3) (v := _) rfl rfl (by kernel_rfl) (by kernel_rfl) (by kernel_rfl) (fun _ _ _ h => h) (Or.inl ⟨by rfl, fun wz hz => by (go_simp; try with_reducible rfl)⟩) S0 ?_
        try simp only [Act.put, List.setIfInBounds_toArray, List.set_cons_zero, List.set_cons_succ]
        refine wpAnyH_done (by kernel_rfl) ?_ _
        have HE := hide (show rr = (⟨2, [], nb, ⟨rm, rc, nd, nx, 0⟩, 0, [], 0, 0, []⟩, false) from by rw [unhide HRD]; rw [decide_eq_false (show ¬ 0 ≤ nd by omega)]; simp)
        clear R SB S0 k0 fk0 k1 fk1 k2 fk2 k3 fk3 k4 fk4 k5 fk5 k6 fk6 k7 fk7 k8 fk8 k9 fk9 k10 fk10 k11 fk11 k12 fk12
        go_wp2
        generalize ((((((((((((((w3.setCell ⟨w.heap.size, 0, none⟩ (.int .i64 2)).setCell ⟨w.heap.size, 1, none⟩ (.string (⟨#[]⟩ : ByteArray))).setCell ⟨w.heap.size, 2, none⟩ (.int .i64 nb)).setCell ⟨w.heap.size, 3, none⟩ (.int .i64 rm)).setCell ⟨w.heap.size, 4, none⟩ (.int .i64 rc)).setCell ⟨w.heap.size, 5, none⟩ (.int .i64 nd)).setCell ⟨w.heap.size, 6, none⟩ (.string (bs nx))).setCell ⟨w.heap.size, 7, none⟩ (.int .i64 0)).setCell ⟨w.heap.size, 8, none⟩ (.int .i64 0)).setCell ⟨w.heap.size, 9, none⟩ (.string (⟨#[]⟩ : ByteArray))).setCell ⟨w.heap.size, 10, none⟩ (.int .i64 0)).setCell ⟨w.heap.size, 11, none⟩ (.int .i64 0)).setCell ⟨w.heap.size, 12, none⟩ (.slice none 0 0)).drew) = W9 at HX HY ⊢
        have z0 := (unhide HX).at 0; have z1 := (unhide HX).at 1; have z2 := (unhide HX).at 2; have z3 := (unhide HX).at 3; have z4 := (unhide HX).at 4; have z5 := (unhide HX).at 5; have z6 := (unhide HX).at 6; have z7 := (unhide HX).at 7; have z8 := (unhide HX).at 8; have z9 := (unhide HX).at 9; have z10 := (unhide HX).at 10; have z11 := (unhide HX).at 11; have z12 := (unhide HX).at 12
        simp at z0 z1 z2 z3 z4 z5 z6 z7 z8 z9 z10 z11 z12
        refine bodyPost_ret (v := .tuple #[opv ⟨2, [], nb, ⟨rm, rc, nd, nx, 0⟩, 0, [], 0, 0, []⟩ none 0 0, .bool false]) (by simp [results, Tryd.results31, go_sem, z0, z1, z2, z3, z4, z5, z6, z7, z8, z9, z10, z11, z12]; try rfl) rfl ⟨by rw [unhide HE], unhide HY⟩
      refine takeD (i := 3) (d := some 43) (v := _) rfl rfl (by kernel_rfl) (by kernel_rfl) (by kernel_rfl) (fun _ _ _ h => h) (Or.inl ⟨by rfl, fun wz hz => by (go_simp; try with_reducible rfl)⟩) S0 ?_
      try simp only [Act.put, List.setIfInBounds_toArray, List.set_cons_zero, List.set_cons_succ]
      refine takeD (i := 4) (d := some 44) (v := _) rfl rfl (by kernel_rfl) (by kernel_rfl) (by kernel_rfl) (fun _ _ _ h => h) (Or.inl ⟨by rfl, fun wz hz => by (go_simp; try with_reducible rfl)⟩) S0 ?_
      try simp only [Act.put, List.setIfInBounds_toArray, List.set_cons_zero, List.set_cons_succ]
      refine takeD (i := 5) (d := some 45) (v := _) rfl rfl (by kernel_rfl) (by kernel_rfl) (by kernel_rfl) (fun _ _ _ h => h) (Or.inl ⟨by rfl, fun wz hz => by (go_simp; try with_reducible rfl)⟩) S0 ?_
      try simp only [Act.put, List.setIfInBounds_toArray, List.set_cons_zero, List.set_cons_succ]
      refine takeD (i := 6) (d := some 46) (v := _) rfl rfl (by kernel_rfl) (by kernel_rfl) (by kernel_rfl) (fun _ _ _ h => h) (Or.inl ⟨by rfl, fun wz hz => by (go_simp; try with_reducible rfl)⟩) S0 ?_
      try simp only [Act.put, List.setIfInBounds_toArray, List.set_cons_zero, List.set_cons_succ]
      refine takeD (i := 7) (d := some 47) (v := _) rfl rfl (by kernel_rfl) (by kernel_rfl) (by kernel_rfl) (fun _ _ _ h => h) (Or.inl ⟨by rfl, fun wz hz => by (go_simp; try with_reducible rfl)⟩) S0 ?_
      try simp only [Act.put, List.setIfInBounds_toArray, List.set_cons_zero, List.set_cons_succ]
      refine takeD (i := 8) (d := some 48) (v := _) rfl rfl (by kernel_rfl) (by kernel_rfl) (by kernel_rfl) (fun _ _ _ h => h) (Or.inl ⟨by rfl, fun wz hz => by (go_simp; try with_reducible rfl)⟩) S0 ?_
      try simp only [Act.put, List.setIfInBounds_toArray, List.set_cons_zero, List.set_cons_succ]
      refine takeD (i := 9) (d := some 49) (v := _) rfl rfl (by kernel_rfl) (by kernel_rfl) (by kernel_rfl) (fun _ _ _ h => h) (Or.inl ⟨by rfl, fun wz hz => by (go_simp; try with_reducible rfl)⟩) S0 ?_
      try simp only [Act.put, List.setIfInBounds_toArray, List.set_cons_zero, List.set_cons_succ]
      refine takeD (i := 10) (d := some 50) (v := _) rfl rfl (by kernel_rfl) (by kernel_rfl) (by kernel_rfl) (fun _ _ _ h => h) (Or.inl ⟨by rfl, fun wz hz => by (go_simp; try with_reducible rfl)⟩) S0 ?_
      try simp only [Act.put, List.setIfInBounds_toArray, List.set_cons_zero, List.set_cons_succ]
      refine takeD (i := 11) (d := some 51) (v := _) rfl rfl (by kernel_rfl) (by kernel_rfl) (by kernel_rfl) (fun _ _ _ h => h) (Or.inl ⟨by rfl, fun wz hz => by (go_simp; try with_reducible rfl)⟩) S0 ?_
      try simp only [Act.put, List.setIfInBounds_toArray, List.set_cons_zero, List.set_cons_succ]
      refine takeD (i := 12) (d := some 52) (v := _) rfl rfl (by kernel_rfl) (by kernel_rfl) (by kernel_rfl) (fun _ _ _ h => h) (Or.inl ⟨by rfl, fun wz hz => by (go_simp; try with_reducible rfl)⟩) S0 ?_
      try simp only [Act.put, List.setIfInBounds_toArray, List.set_cons_zero, List.set_cons_succ]
      refine takeD (i := 13) (d := some 53) (v := _) rfl rfl (by kernel_rfl) (by kernel_rfl) (by kernel_rfl) (fun _ _ _ h => h) (Or.inl ⟨by rfl, fun wz hz => by (go_simp; try with_reducible rfl)⟩) S0 ?_
      try simp only [Act.put, List.setIfInBounds_toArray, List.set_cons_zero, List.set_cons_succ]
      refine takeD (i := 14) (d := some 54) (v := _) rfl rfl (by kernel_rfl) (by kernel_rfl) (by kernel_rfl) (fun _ _ _ h => h) (Or.inl ⟨by rfl, fun wz hz => by (go_simp; try with_reducible rfl)⟩) S0 ?_
      try simp only [Act.put, List.setIfInBounds_toArray, List.set_cons_zero, List.set_cons_succ]
      refine takeD (i := 15) (d := some 55) (v := _) rfl rfl (by kernel_rfl) (by kernel_rfl) (by kernel_rfl) (fun _ _ _ h => h) (Or.inl ⟨by rfl, fun wz hz => by (go_simp; try with_reducible rfl)⟩) S0 ?_
      try simp only [Act.put, List.setIfInBounds_toArray, List.set_cons_zero, List.set_cons_succ]
      refine takeD (i := 16) (d := some 56) (v := _) rfl rfl (by kernel_rfl) (by kernel_rfl) (by kernel_rfl) (fun _ _ _ h => h) (Or.inl ⟨by rfl, fun wz hz => by (go_simp; try with_reducible rfl)⟩) S0 ?_
      try simp only [Act.put, List.setIfInBounds_toArray, List.set_cons_zero, List.set_cons_succ]
      refine takeD (i := 17) (d := some 57) (v := _) rfl rfl (by kernel_rfl) (by kernel_rfl) (by kernel_rfl) (fun _ _ _ h => h) (Or.inl ⟨by rfl, fun wz hz => by (go_simp; try with_reducible rfl)⟩) S0 ?_
      try simp only [Act.put, List.setIfInBounds_toArray, List.set_cons_zero, List.set_cons_succ]
      refine takeD (i := 18) (d := some 58) (v := _) rfl rfl (by kernel_rfl) (by kernel_rfl) (by kernel_rfl) (fun _ _ _ h => h) (Or.inl ⟨by rfl, fun wz hz => by (go_simp; try with_reducible rfl)⟩) S0 ?_
      try simp only [Act.put, List.setIfInBounds_toArray, List.set_cons_zero, List.set_cons_succ]
      refine wpAnyH_ready (rs := [19]) (by kernel_rfl) (by simp) (AllReadyH.cons rfl (fun K hK => ?_) AllReadyH.nil)
      go_simp
      go_wp2_with fail
      refine hK.out _ _ SB (fun S0 => ?_)
      clear hK K
      try simp only [Act.put, List.setIfInBounds_toArray, List.set_cons_zero, List.set_cons_succ]
      refine takeD (i := 20) (d := some 3) (v := _) rfl rfl (by kernel_rfl) (by kernel_rfl) (by kernel_rfl) (fun _ _ _ h => h) (Or.inl ⟨by rfl, fun wz hz => by (go_simp; try with_reducible rfl)⟩) S0 ?_
      try simp only [Act.put, List.setIfInBounds_toArray, List.set_cons_zero, List.set_cons_succ]
      refine wpAnyH_done (by kernel_rfl) ?_ _
      have HE := hide (show rr = (⟨2, [], nb, ⟨rm, rc, nd, nx, 0⟩, 0, [], 0, 0, []⟩, true) from by rw [unhide HRD]; rw [decide_eq_true hb0, decide_eq_true hd0]; rfl)
      clear R SB S0 k0 fk0 k1 fk1 k2 fk2 k3 fk3 k4 fk4 k5 fk5 k6 fk6 k7 fk7 k8 fk8 k9 fk9 k10 fk10 k11 fk11 k12 fk12
      go_wp2
      generalize ((((((((((((((w3.setCell ⟨w.heap.size, 0, none⟩ (.int .i64 2)).setCell ⟨w.heap.size, 1, none⟩ (.string (⟨#[]⟩ : ByteArray))).setCell ⟨w.heap.size, 2, none⟩ (.int .i64 nb)).setCell ⟨w.heap.size, 3, none⟩ (.int .i64 rm)).setCell ⟨w.heap.size, 4, none⟩ (.int .i64 rc)).setCell ⟨w.heap.size, 5, none⟩ (.int .i64 nd)).setCell ⟨w.heap.size, 6, none⟩ (.string (bs nx))).setCell ⟨w.heap.size, 7, none⟩ (.int .i64 0)).setCell ⟨w.heap.size, 8, none⟩ (.int .i64 0)).setCell ⟨w.heap.size, 9, none⟩ (.string (⟨#[]⟩ : ByteArray))).setCell ⟨w.heap.size, 10, none⟩ (.int .i64 0)).setCell ⟨w.heap.size, 11, none⟩ (.int .i64 0)).setCell ⟨w.heap.size, 12, none⟩ (.slice none 0 0)).drew) = W9 at HX HY ⊢
      have z0 := (unhide HX).at 0; have z1 := (unhide HX).at 1; have z2 := (unhide HX).at 2; have z3 := (unhide HX).at 3; have z4 := (unhide HX).at 4; have z5 := (unhide HX).at 5; have z6 := (unhide HX).at 6; have z7 := (unhide HX).at 7; have z8 := (unhide HX).at 8; have z9 := (unhide HX).at 9; have z10 := (unhide HX).at 10; have z11 := (unhide HX).at 11; have z12 := (unhide HX).at 12
      simp at z0 z1 z2 z3 z4 z5 z6 z7 z8 z9 z10 z11 z12
      refine bodyPost_ret (v := .tuple #[opv ⟨2, [], nb, ⟨rm, rc, nd, nx, 0⟩, 0, [], 0, 0, []⟩ none 0 0, .bool true]) (by simp [results, Tryd.results31, go_sem, z0, z1, z2, z3, z4, z5, z6, z7, z8, z9, z10, z11, z12]; try rfl) rfl ⟨by rw [unhide HE], unhide HY⟩
end Go.Proofs.YtfhnjghjibklcaaDoor
