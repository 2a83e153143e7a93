/-
  An operation out of its text, by the program: wordsOp whole, ReadOp; walks over the dump.
-/
import Derived.Test.YtfhnjghjibklcaaDoorRoJ
namespace Go.Proofs.YtfhnjghjibklcaaDoor
open Go.RowKit
set_option linter.unusedVariables false
set_option linter.unusedSimpArgs false

set_option maxRecDepth 100000 in
set_option maxHeartbeats 8000000 in
theorem wordsOpA_any (a b c d : List UInt8) (e : Option (List UInt8)) (g n cap : Nat) (w : World) (hn : n = 4 + (if e.isSome then 1 else 0)) (h0 : w.cell? ⟨g, 0, none⟩ = some (.string (bs a))) (h1 : w.cell? ⟨g, 1, none⟩ = some (.string (bs b))) (h2 : w.cell? ⟨g, 2, none⟩ = some (.string (bs c))) (h3 : w.cell? ⟨g, 3, none⟩ = some (.string (bs d))) (h4 : ∀ x, e = some x → w.cell? ⟨g, 4, none⟩ = some (.string (bs x)) ∧ x.length ≤ 1048576)
    (hb : b.length ≤ 1048576) (hc : c.length ≤ 1048576) (hd : d.length ≤ 1048576) (hm : MaxLenAt w) :
    Calls Tryd.prog 25 #[.slice (some ⟨g, 0, none⟩) n cap] w fun e' w' => e' = .returned (.tuple #[opv (rdAsk a b c d e).1 none 0 0, .bool (rdAsk a b c d e).2]) ∧ Below w.heap.size w w' := by
  have CA := hide (fun wx (hx : Below w.heap.size w wx) => askOp_any a b c d e g n cap wx hn (Kp.cell hx h0) (Kp.cell hx h1) (Kp.cell hx h2) (Kp.cell hx h3) (fun x ex => ⟨Kp.cell hx (h4 x ex).1, (h4 x ex).2⟩) hb hc hd (hm.below hx))
  obtain ⟨⟨⟨kind, queue, app, ⟨am, ac, an, ad, ai⟩, cont, node, mem, cpu, conts⟩, ok⟩, hr⟩ : ∃ r, rdAsk a b c d e = r := ⟨_, rfl⟩
  rw [hr] at CA ⊢
  simp only at CA
  have hn' : n = 4 ∨ n = 5 := by rw [hn]; split <;> simp
  have HB0 := hide (below_al (Below.refl _ w) (.cells #[.int .i64 0, .string (⟨#[]⟩ : ByteArray), .int .i64 0, .int .i64 0, .int .i64 0, .int .i64 0, .string (⟨#[]⟩ : ByteArray), .int .i64 0, .int .i64 0, .string (⟨#[]⟩ : ByteArray), .int .i64 0, .int .i64 0, .slice none 0 0] 28))
  have R0 := hide (blk_new w #[.int .i64 0, .string (⟨#[]⟩ : ByteArray), .int .i64 0, .int .i64 0, .int .i64 0, .int .i64 0, .string (⟨#[]⟩ : ByteArray), .int .i64 0, .int .i64 0, .string (⟨#[]⟩ : ByteArray), .int .i64 0, .int .i64 0, .slice none 0 0] 28)
  clear hr hn h0 h1 h2 h3 h4 hb hc hd hm
  rcases hn' with rfl | rfl
  all_goals
    go_enter Tryd.func25, Tryd.ntmps25
    go_wp2_with fail
    refine (unhide CA _ (unhide HB0)).mono ?_
    rintro e w1 ⟨rfl, hb⟩
    have HB1 := hide (below_on (unhide HB0) hb)
    have R1 := hide ((unhide R0).below hb)
    clear hb HB0 R0 CA
    have k0 := (unhide R1).at 0; have k1 := (unhide R1).at 1; have k2 := (unhide R1).at 2; have k3 := (unhide R1).at 3; have k4 := (unhide R1).at 4; have k5 := (unhide R1).at 5; have k6 := (unhide R1).at 6; have k7 := (unhide R1).at 7; have k8 := (unhide R1).at 8; have k9 := (unhide R1).at 9; have k10 := (unhide R1).at 10; have k11 := (unhide R1).at 11; have k12 := (unhide R1).at 12
    have fk0 := (unhide R1).f 0; have fk1 := (unhide R1).f 1; have fk2 := (unhide R1).f 2; have fk3 := (unhide R1).f 3; have fk4 := (unhide R1).f 4; have fk5 := (unhide R1).f 5; have fk6 := (unhide R1).f 6; have fk7 := (unhide R1).f 7; have fk8 := (unhide R1).f 8; have fk9 := (unhide R1).f 9; have fk10 := (unhide R1).f 10; have fk11 := (unhide R1).f 11; have fk12 := (unhide R1).f 12
    simp at k0 k1 k2 k3 k4 k5 k6 k7 k8 k9 k10 k11 k12
    have HX := hide (show Blk (((((((((((((w1.setCell ⟨w.heap.size, 0, none⟩ (.int .i64 kind)).setCell ⟨w.heap.size, 1, none⟩ (.string (bs queue))).setCell ⟨w.heap.size, 2, none⟩ (.int .i64 app)).setCell ⟨w.heap.size, 3, none⟩ (.int .i64 am)).setCell ⟨w.heap.size, 4, none⟩ (.int .i64 ac)).setCell ⟨w.heap.size, 5, none⟩ (.int .i64 an)).setCell ⟨w.heap.size, 6, none⟩ (.string (bs ad))).setCell ⟨w.heap.size, 7, none⟩ (.int .i64 ai)).setCell ⟨w.heap.size, 8, none⟩ (.int .i64 cont)).setCell ⟨w.heap.size, 9, none⟩ (.string (bs node))).setCell ⟨w.heap.size, 10, none⟩ (.int .i64 mem)).setCell ⟨w.heap.size, 11, none⟩ (.int .i64 cpu)).setCell ⟨w.heap.size, 12, none⟩ (.slice none 0 0)) (w.heap.size) #[.int .i64 kind, .string (bs queue), .int .i64 app, .int .i64 am, .int .i64 ac, .int .i64 an, .string (bs ad), .int .i64 ai, .int .i64 cont, .string (bs node), .int .i64 mem, .int .i64 cpu, .slice none 0 0] 28 from (Blk.sets (unhide R1) [.int .i64 kind, .string (bs queue), .int .i64 app, .int .i64 am, .int .i64 ac, .int .i64 an, .string (bs ad), .int .i64 ai, .int .i64 cont, .string (bs node), .int .i64 mem, .int .i64 cpu, .slice none 0 0] rfl))
    have HY := hide (show Below w.heap.size w (((((((((((((w1.setCell ⟨w.heap.size, 0, none⟩ (.int .i64 kind)).setCell ⟨w.heap.size, 1, none⟩ (.string (bs queue))).setCell ⟨w.heap.size, 2, none⟩ (.int .i64 app)).setCell ⟨w.heap.size, 3, none⟩ (.int .i64 am)).setCell ⟨w.heap.size, 4, none⟩ (.int .i64 ac)).setCell ⟨w.heap.size, 5, none⟩ (.int .i64 an)).setCell ⟨w.heap.size, 6, none⟩ (.string (bs ad))).setCell ⟨w.heap.size, 7, none⟩ (.int .i64 ai)).setCell ⟨w.heap.size, 8, none⟩ (.int .i64 cont)).setCell ⟨w.heap.size, 9, none⟩ (.string (bs node))).setCell ⟨w.heap.size, 10, none⟩ (.int .i64 mem)).setCell ⟨w.heap.size, 11, none⟩ (.int .i64 cpu)).setCell ⟨w.heap.size, 12, none⟩ (.slice none 0 0)) from (below_sets (unhide HB1) (g := w.heap.size) (by omega) 0 [.int .i64 kind, .string (bs queue), .int .i64 app, .int .i64 am, .int .i64 ac, .int .i64 an, .string (bs ad), .int .i64 ai, .int .i64 cont, .string (bs node), .int .i64 mem, .int .i64 cpu, .slice none 0 0]))
    go_wp2
    generalize (((((((((((((w1.setCell ⟨w.heap.size, 0, none⟩ (.int .i64 kind)).setCell ⟨w.heap.size, 1, none⟩ (.string (bs queue))).setCell ⟨w.heap.size, 2, none⟩ (.int .i64 app)).setCell ⟨w.heap.size, 3, none⟩ (.int .i64 am)).setCell ⟨w.heap.size, 4, none⟩ (.int .i64 ac)).setCell ⟨w.heap.size, 5, none⟩ (.int .i64 an)).setCell ⟨w.heap.size, 6, none⟩ (.string (bs ad))).setCell ⟨w.heap.size, 7, none⟩ (.int .i64 ai)).setCell ⟨w.heap.size, 8, none⟩ (.int .i64 cont)).setCell ⟨w.heap.size, 9, none⟩ (.string (bs node))).setCell ⟨w.heap.size, 10, none⟩ (.int .i64 mem)).setCell ⟨w.heap.size, 11, none⟩ (.int .i64 cpu)).setCell ⟨w.heap.size, 12, none⟩ (.slice none 0 0)) = W9 at HX HY ⊢
    have z0 := (unhide HX).at 0; have z1 := (unhide HX).at 1; have z2 := (unhide HX).at 2; have z3 := (unhide HX).at 3; have z4 := (unhide HX).at 4; have z5 := (unhide HX).at 5; have z6 := (unhide HX).at 6; have z7 := (unhide HX).at 7; have z8 := (unhide HX).at 8; have z9 := (unhide HX).at 9; have z10 := (unhide HX).at 10; have z11 := (unhide HX).at 11; have z12 := (unhide HX).at 12
    simp at z0 z1 z2 z3 z4 z5 z6 z7 z8 z9 z10 z11 z12
    refine bodyPost_ret (v := .tuple #[opv ⟨kind, queue, app, ⟨am, ac, an, ad, ai⟩, cont, node, mem, cpu, conts⟩ none 0 0, .bool ok]) (by simp [results, Tryd.results25, go_sem, z0, z1, z2, z3, z4, z5, z6, z7, z8, z9, z10, z11, z12]; try rfl) rfl ⟨rfl, unhide HY⟩

set_option maxRecDepth 100000 in
set_option maxHeartbeats 8000000 in
theorem wordsOpZ_any (g n cap : Nat) (w : World) (h1 : n ≠ 1) (h2 : n ≠ 2) (h4 : n ≠ 4) (h5 : n ≠ 5) (hn : n ≤ 9223372036854775807) :
    Calls Tryd.prog 25 #[.slice (some ⟨g, 0, none⟩) n cap] w fun e' w' => e' = .returned (.tuple #[opv zop none 0 0, .bool false]) ∧ Below w.heap.size w w' := by
  have k1 : ¬ (n : Int) = 1 := by omega
  have k2 : ¬ (n : Int) = 2 := by omega
  have k4 : ¬ (n : Int) = 4 := by omega
  have k5 : ¬ (n : Int) = 5 := by omega
  go_enter Tryd.func25, Tryd.ntmps25
  go_wp2
  exact bodyPost_ret (v := .tuple #[opv ⟨0, [], 0, ⟨0, 0, 0, [], 0⟩, 0, [], 0, 0, []⟩ none 0 0, .bool false]) (by simp [results, Tryd.results25, go_sem]; try rfl) rfl ⟨rfl, below_al (Below.refl _ _) _⟩

theorem wordsOp_any (ws : List (List UInt8)) (g cap : Nat) (w : World) (h : SS w g cap (ws.map bs)) (hs : ∀ x ∈ ws, x.length ≤ 1048576) (hn : ws.length ≤ 9223372036854775807) (hm : MaxLenAt w) :
    Calls Tryd.prog 25 #[.slice (some ⟨g, 0, none⟩) ws.length cap] w fun e' w' => e' = .returned (.tuple #[opv (rdWords ws).1 none 0 0, .bool (rdWords ws).2]) ∧ Below w.heap.size w w' := by
  match ws, h, hs, hn with
  | [], h, hs, hn => exact wordsOpZ_any g 0 cap w (by simp) (by simp) (by simp) (by simp) (by simp)
  | [a], h, hs, hn => exact wordsOp1_any a g cap w h
  | [a, b], h, hs, hn => exact wordsOp2_any a b g cap w h (hs a (by simp)) (hs b (by simp))
  | [a, b, c], h, hs, hn => exact wordsOpZ_any g 3 cap w (by simp) (by simp) (by simp) (by simp) (by simp)
  | [a, b, c, d], h, hs, hn => exact wordsOpA_any a b c d none g 4 cap w (by simp) (h.word (j := 0) (by simp)) (h.word (j := 1) (by simp)) (h.word (j := 2) (by simp)) (h.word (j := 3) (by simp)) (fun x ex => by cases ex) (hs b (by simp)) (hs c (by simp)) (hs d (by simp)) hm
  | [a, b, c, d, e], h, hs, hn => exact wordsOpA_any a b c d (some e) g 5 cap w (by simp) (h.word (j := 0) (by simp)) (h.word (j := 1) (by simp)) (h.word (j := 2) (by simp)) (h.word (j := 3) (by simp)) (fun x ex => by cases ex; exact ⟨h.word (j := 4) (by simp), hs e (by simp)⟩) (hs b (by simp)) (hs c (by simp)) (hs d (by simp)) hm
  | a :: b :: c :: d :: e :: f :: r, h, hs, hn =>
    exact wordsOpZ_any g _ cap w (by simp) (by simp) (by simp) (by simp) hn

set_option maxRecDepth 100000 in
set_option maxHeartbeats 8000000 in
theorem implReadOp_any (l : List UInt8) (w : World) (hl : l.length ≤ 1048576) (hm : MaxLenAt w) (hm2 : ∃ m, w.cell? ⟨0, 0, none⟩ = some (.int .i64 m)) :
    Calls Tryd.prog 5 #[.string (bs l)] w fun e' w' => e' = .returned (.tuple #[opv (rdOp l).1 none 0 0, .bool (rdOp l).2]) ∧ Below w.heap.size w w' := by
  have CW := hide (fun wx (hx : Below w.heap.size w wx) => by have := implWords_any (bs l) wx (by rw [bs_size]; exact hl) (cell_on hm2 hx); rw [bs_data] at this; exact this)
  have CR := hide (fun g cap wx (hx : Below w.heap.size w wx) (h : SS wx g cap (wordsB l)) => readOp_any g (words l).length cap (rdWords (words l)) wx (fun wy hy => wordsOp_any (words l) g cap wy (h.same (hy.block g h.lt)) (fun x hx => by have := words_le l x hx; omega) (by have := (wordsFrom_len l []).2; simp only [words]; omega) (hm.below (below_on hx hy))))
  have hlen : (wordsB l).length = (words l).length := by simp [wordsB]
  rw [show keepOp (rdWords (words l)) = rdOp l from rfl] at CR
  obtain ⟨⟨⟨kind, queue, app, ⟨am, ac, an, ad, ai⟩, cont, node, mem, cpu, conts⟩, ok⟩, hr⟩ : ∃ r, rdOp l = r := ⟨_, rfl⟩
  rw [hr] at CR ⊢
  simp only at CR
  rw [← hlen] at CR
  have HB0 := hide (below_al (Below.refl _ w) (.cells #[.int .i64 0, .string (⟨#[]⟩ : ByteArray), .int .i64 0, .int .i64 0, .int .i64 0, .int .i64 0, .string (⟨#[]⟩ : ByteArray), .int .i64 0, .int .i64 0, .string (⟨#[]⟩ : ByteArray), .int .i64 0, .int .i64 0, .slice none 0 0] 28))
  have R0 := hide (blk_new w #[.int .i64 0, .string (⟨#[]⟩ : ByteArray), .int .i64 0, .int .i64 0, .int .i64 0, .int .i64 0, .string (⟨#[]⟩ : ByteArray), .int .i64 0, .int .i64 0, .string (⟨#[]⟩ : ByteArray), .int .i64 0, .int .i64 0, .slice none 0 0] 28)
  clear hr hlen hm hm2 hl
  go_enter Tryd.func5, Tryd.ntmps5
  go_wp2_with fail
  refine (unhide CW _ (unhide HB0)).mono ?_
  rintro e w0 ⟨g, cap, rfl, hs, _, hb⟩
  have HB1 := hide (below_on (unhide HB0) hb)
  have R1 := hide ((unhide R0).below hb)
  have C1 := hide (unhide CR g cap _ (unhide HB1) hs)
  clear hb hs HB0 R0 CW CR
  go_wp2_with fail
  refine (unhide C1).mono ?_
  rintro e w1 ⟨rfl, hb⟩
  have HB2 := hide (below_on (unhide HB1) hb)
  have R2 := hide ((unhide R1).below hb)
  clear hb HB1 R1 C1
  have k0 := (unhide R2).at 0; have k1 := (unhide R2).at 1; have k2 := (unhide R2).at 2; have k3 := (unhide R2).at 3; have k4 := (unhide R2).at 4; have k5 := (unhide R2).at 5; have k6 := (unhide R2).at 6; have k7 := (unhide R2).at 7; have k8 := (unhide R2).at 8; have k9 := (unhide R2).at 9; have k10 := (unhide R2).at 10; have k11 := (unhide R2).at 11; have k12 := (unhide R2).at 12
  have fk0 := (unhide R2).f 0; have fk1 := (unhide R2).f 1; have fk2 := (unhide R2).f 2; have fk3 := (unhide R2).f 3; have fk4 := (unhide R2).f 4; have fk5 := (unhide R2).f 5; have fk6 := (unhide R2).f 6; have fk7 := (unhide R2).f 7; have fk8 := (unhide R2).f 8; have fk9 := (unhide R2).f 9; have fk10 := (unhide R2).f 10; have fk11 := (unhide R2).f 11; have fk12 := (unhide R2).f 12
  simp at k0 k1 k2 k3 k4 k5 k6 k7 k8 k9 k10 k11 k12
  have HX := hide (show Blk (((((((((((((w1.setCell ⟨w.heap.size, 0, none⟩ (.int .i64 kind)).setCell ⟨w.heap.size, 1, none⟩ (.string (bs queue))).setCell ⟨w.heap.size, 2, none⟩ (.int .i64 app)).setCell ⟨w.heap.size, 3, none⟩ (.int .i64 am)).setCell ⟨w.heap.size, 4, none⟩ (.int .i64 ac)).setCell ⟨w.heap.size, 5, none⟩ (.int .i64 an)).setCell ⟨w.heap.size, 6, none⟩ (.string (bs ad))).setCell ⟨w.heap.size, 7, none⟩ (.int .i64 ai)).setCell ⟨w.heap.size, 8, none⟩ (.int .i64 cont)).setCell ⟨w.heap.size, 9, none⟩ (.string (bs node))).setCell ⟨w.heap.size, 10, none⟩ (.int .i64 mem)).setCell ⟨w.heap.size, 11, none⟩ (.int .i64 cpu)).setCell ⟨w.heap.size, 12, none⟩ (.slice none 0 0)) (w.heap.size) #[.int .i64 kind, .string (bs queue), .int .i64 app, .int .i64 am, .int .i64 ac, .int .i64 an, .string (bs ad), .int .i64 ai, .int .i64 cont, .string (bs node), .int .i64 mem, .int .i64 cpu, .slice none 0 0] 28 from (Blk.sets (unhide R2) [.int .i64 kind, .string (bs queue), .int .i64 app, .int .i64 am, .int .i64 ac, .int .i64 an, .string (bs ad), .int .i64 ai, .int .i64 cont, .string (bs node), .int .i64 mem, .int .i64 cpu, .slice none 0 0] rfl))
  have HY := hide (show Below w.heap.size w (((((((((((((w1.setCell ⟨w.heap.size, 0, none⟩ (.int .i64 kind)).setCell ⟨w.heap.size, 1, none⟩ (.string (bs queue))).setCell ⟨w.heap.size, 2, none⟩ (.int .i64 app)).setCell ⟨w.heap.size, 3, none⟩ (.int .i64 am)).setCell ⟨w.heap.size, 4, none⟩ (.int .i64 ac)).setCell ⟨w.heap.size, 5, none⟩ (.int .i64 an)).setCell ⟨w.heap.size, 6, none⟩ (.string (bs ad))).setCell ⟨w.heap.size, 7, none⟩ (.int .i64 ai)).setCell ⟨w.heap.size, 8, none⟩ (.int .i64 cont)).setCell ⟨w.heap.size, 9, none⟩ (.string (bs node))).setCell ⟨w.heap.size, 10, none⟩ (.int .i64 mem)).setCell ⟨w.heap.size, 11, none⟩ (.int .i64 cpu)).setCell ⟨w.heap.size, 12, none⟩ (.slice none 0 0)) from (below_sets (unhide HB2) (g := w.heap.size) (by omega) 0 [.int .i64 kind, .string (bs queue), .int .i64 app, .int .i64 am, .int .i64 ac, .int .i64 an, .string (bs ad), .int .i64 ai, .int .i64 cont, .string (bs node), .int .i64 mem, .int .i64 cpu, .slice none 0 0]))
  go_wp2
  generalize (((((((((((((w1.setCell ⟨w.heap.size, 0, none⟩ (.int .i64 kind)).setCell ⟨w.heap.size, 1, none⟩ (.string (bs queue))).setCell ⟨w.heap.size, 2, none⟩ (.int .i64 app)).setCell ⟨w.heap.size, 3, none⟩ (.int .i64 am)).setCell ⟨w.heap.size, 4, none⟩ (.int .i64 ac)).setCell ⟨w.heap.size, 5, none⟩ (.int .i64 an)).setCell ⟨w.heap.size, 6, none⟩ (.string (bs ad))).setCell ⟨w.heap.size, 7, none⟩ (.int .i64 ai)).setCell ⟨w.heap.size, 8, none⟩ (.int .i64 cont)).setCell ⟨w.heap.size, 9, none⟩ (.string (bs node))).setCell ⟨w.heap.size, 10, none⟩ (.int .i64 mem)).setCell ⟨w.heap.size, 11, none⟩ (.int .i64 cpu)).setCell ⟨w.heap.size, 12, none⟩ (.slice none 0 0)) = W9 at HX HY ⊢
  have z0 := (unhide HX).at 0; have z1 := (unhide HX).at 1; have z2 := (unhide HX).at 2; have z3 := (unhide HX).at 3; have z4 := (unhide HX).at 4; have z5 := (unhide HX).at 5; have z6 := (unhide HX).at 6; have z7 := (unhide HX).at 7; have z8 := (unhide HX).at 8; have z9 := (unhide HX).at 9; have z10 := (unhide HX).at 10; have z11 := (unhide HX).at 11; have z12 := (unhide HX).at 12
  simp at z0 z1 z2 z3 z4 z5 z6 z7 z8 z9 z10 z11 z12
  refine bodyPost_ret (v := .tuple #[opv ⟨kind, queue, app, ⟨am, ac, an, ad, ai⟩, cont, node, mem, cpu, conts⟩ none 0 0, .bool ok]) (by simp [results, Tryd.results5, go_sem, z0, z1, z2, z3, z4, z5, z6, z7, z8, z9, z10, z11, z12]; try rfl) rfl ⟨rfl, unhide HY⟩
end Go.Proofs.YtfhnjghjibklcaaDoor
