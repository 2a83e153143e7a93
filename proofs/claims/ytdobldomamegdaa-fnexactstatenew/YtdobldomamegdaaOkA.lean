/-
  An amount that is something, an ask that is right: by the program and by the model; walks over the dump.
-/
import Derived.Test.YtdobldomamegdaaStAll
import Derived.Test.YtdobldomamegdaaPackD
import Derived.Test.YtdobldomamegdaaPackB
import Derived.Test.YtdobldomamegdaaPackC
namespace Go.Proofs.Ytdobldomamegdaa
open Go.RowKit
set_option linter.unusedVariables false

def someR (a b : Int) : Bool := resOk a b && !(decide (a = 0) && decide (b = 0))

set_option maxRecDepth 100000 in
set_option maxHeartbeats 1000000 in
theorem something_any (a b : Int) (w : World) :
    Calls Try.prog 70 #[rv a b] w fun e w' => e = .returned (.bool (someR a b)) ∧ Below w.heap.size w w' := by
  have HB0 := hide (below_al (Below.refl _ w) (.cells #[.int .i64 a, .int .i64 b] 56))
  have P0 := hide (blk_new w #[.int .i64 a, .int .i64 b] 56)
  obtain ⟨r, hr⟩ : ∃ r, resOk a b = r := ⟨_, rfl⟩
  have C := hide (fun wx => by have := ok_bel a b wx; rw [hr] at this; exact this)
  have HS := hide (show someR a b = (r && !(decide (a = 0) && decide (b = 0))) by rw [someR, hr])
  obtain ⟨o, ho⟩ : ∃ o, someR a b = o := ⟨_, rfl⟩
  rw [ho] at HS ⊢
  clear hr ho
  go_enter Try.func70, Try.ntmps70
  go_wp2_with fail
  refine (unhide C _).mono ?_
  rintro e w1 ⟨rfl, hb⟩
  have HB1 := hide (below_on (unhide HB0) hb)
  have P1 := (unhide P0).below hb
  have p0 := P1.at 0
  have p1 := P1.at 1
  simp at p0 p1
  clear hb P1 P0 HB0 C
  cases r with
  | false =>
    go_wp2
    go_ret
    exact ⟨ret_bool (by rw [unhide HS]; simp), unhide HB1⟩
  | true =>
    by_cases ha : a = 0
    · by_cases hbz : b = 0
      · subst ha hbz
        go_wp2
        go_ret
        exact ⟨ret_bool (by rw [unhide HS]; simp), unhide HB1⟩
      · subst ha
        go_wp2
        go_ret
        exact ⟨ret_bool (by rw [unhide HS]; simp [hbz]), unhide HB1⟩
    · go_wp2
      go_ret
      exact ⟨ret_bool (by rw [unhide HS]; simp [ha]), unhide HB1⟩
theorem specOk_bel (a b : Int) (w : World) :
    Calls Try.prog 56 #[rv a b] w fun e w' => e = .returned (.bool (resOk a b)) ∧ Below w.heap.size w w' :=
  (specResOk_any a b w).mono fun e w' h => ⟨h.1, by rw [h.2]; exact below_al (Below.refl _ _) _⟩

set_option maxRecDepth 100000 in
set_option maxHeartbeats 1000000 in
theorem l04Some_any (a b : Int) (w : World) :
    Calls Try.prog 36 #[rv a b] w fun e w' => e = .returned (.bool (someR a b)) ∧ Below w.heap.size w w' := by
  have HB0 := hide (below_al (Below.refl _ w) (.cells #[.int .i64 a, .int .i64 b] 56))
  have P0 := hide (blk_new w #[.int .i64 a, .int .i64 b] 56)
  obtain ⟨r, hr⟩ : ∃ r, resOk a b = r := ⟨_, rfl⟩
  have C := hide (fun wx => by have := specOk_bel a b wx; rw [hr] at this; exact this)
  have HS := hide (show someR a b = (r && !(decide (a = 0) && decide (b = 0))) by rw [someR, hr])
  obtain ⟨o, ho⟩ : ∃ o, someR a b = o := ⟨_, rfl⟩
  rw [ho] at HS ⊢
  clear hr ho
  go_enter Try.func36, Try.ntmps36
  go_wp2_with fail
  refine (unhide C _).mono ?_
  rintro e w1 ⟨rfl, hb⟩
  have HB1 := hide (below_on (unhide HB0) hb)
  have P1 := (unhide P0).below hb
  have p0 := P1.at 0
  have p1 := P1.at 1
  simp at p0 p1
  clear hb P1 P0 HB0 C
  cases r with
  | false =>
    go_wp2
    go_ret
    exact ⟨ret_bool (by rw [unhide HS]; simp), unhide HB1⟩
  | true =>
    by_cases ha : a = 0
    · by_cases hbz : b = 0
      · subst ha hbz
        go_wp2
        go_ret
        exact ⟨ret_bool (by rw [unhide HS]; simp), unhide HB1⟩
      · subst ha
        go_wp2
        go_ret
        exact ⟨ret_bool (by rw [unhide HS]; simp [hbz]), unhide HB1⟩
    · go_wp2
      go_ret
      exact ⟨ret_bool (by rw [unhide HS]; simp [ha]), unhide HB1⟩

def askOk (q : Ask) : Bool := someR q.mem q.cpu && (inB q.count 1 1000 && ((decide (q.node = []) || nameOk q.node) && inB q.missed 0 1000))

set_option maxRecDepth 100000 in
set_option maxHeartbeats 2000000 in
theorem askOk_any (q : Ask) (w : World) (hn : q.node.length ≤ 1048576) :
    Calls Try.prog 83 #[askv q] w fun e w' => e = .returned (.bool (askOk q)) ∧ Below w.heap.size w w' := by
  obtain ⟨x0, x1, ct, nd, ms⟩ := q
  simp only at hn
  have HB0 := hide (below_al (Below.refl _ w) (.cells #[.int .i64 x0, .int .i64 x1, .int .i64 ct, .string (bs nd), .int .i64 ms] 78))
  have P0 := hide (blk_new w #[.int .i64 x0, .int .i64 x1, .int .i64 ct, .string (bs nd), .int .i64 ms] 78)
  obtain ⟨sm, hsm⟩ : ∃ r, someR x0 x1 = r := ⟨_, rfl⟩
  obtain ⟨nk, hnk⟩ : ∃ r, nameOk nd = r := ⟨_, rfl⟩
  have C := hide (fun wx => by have := something_any x0 x1 wx; rw [hsm] at this; exact this)
  have CN := hide (fun wx => by have := implNameOk_any (bs nd) wx (by rw [bs_size]; exact hn); rw [show nameOk (bs nd).data.toList = nk by rw [← hnk]; simp [bs]] at this; exact this)
  have HS := hide (show askOk ⟨x0, x1, ct, nd, ms⟩ = (sm && (inB ct 1 1000 && ((decide (nd = []) || nk) && inB ms 0 1000))) by rw [askOk]; simp only [hsm, hnk])
  obtain ⟨o, ho⟩ : ∃ o, askOk ⟨x0, x1, ct, nd, ms⟩ = o := ⟨_, rfl⟩
  have hbz := bs_empty nd
  rw [ho] at HS ⊢
  clear hsm hnk ho hn
  go_enter Try.func83, Try.ntmps83
  go_wp2_with fail
  refine (unhide C _).mono ?_
  rintro e w1 ⟨rfl, hb⟩
  have HB1 := hide (below_on (unhide HB0) hb)
  have P1 := (unhide P0).below hb
  have p2 := P1.at 2
  have p3 := P1.at 3
  have p4 := P1.at 4
  simp at p2 p3 p4
  clear hb P1 P0 HB0 C
  cases sm with
  | false =>
    go_wp2
    go_ret
    exact ⟨ret_bool (by rw [unhide HS]; simp), unhide HB1⟩
  | true =>
  by_cases h1 : 1 ≤ ct
  case neg =>
    go_wp2
    go_ret
    exact ⟨ret_bool (by rw [unhide HS, inB_false (by omega)]; simp), unhide HB1⟩
  by_cases h2 : ct ≤ 1000
  case neg =>
    go_wp2
    go_ret
    exact ⟨ret_bool (by rw [unhide HS, inB_false (by omega)]; simp), unhide HB1⟩
  by_cases hz : nd = []
  · rw [decide_eq_true hz] at hbz HS
    clear hz
    by_cases m1 : 0 ≤ ms
    case neg =>
      go_wp2
      go_ret
      exact ⟨ret_bool (by rw [unhide HS, inB_true h1 h2, inB_false (by omega)]; simp), unhide HB1⟩
    by_cases m2 : ms ≤ 1000
    case neg =>
      go_wp2
      go_ret
      exact ⟨ret_bool (by rw [unhide HS, inB_true h1 h2, inB_false (x := ms) (by omega)]; simp; omega), unhide HB1⟩
    go_wp2
    go_ret
    exact ⟨ret_bool (by rw [unhide HS, inB_true h1 h2, inB_true m1 m2]; simp), unhide HB1⟩
  · rw [decide_eq_false hz] at hbz HS
    clear hz
    go_wp2_with fail
    refine (unhide CN _).mono ?_
    rintro e w2 ⟨rfl, rfl⟩
    clear CN
    cases nk with
    | false =>
      go_wp2
      go_ret
      exact ⟨ret_bool (by rw [unhide HS]; simp), unhide HB1⟩
    | true =>
    by_cases m1 : 0 ≤ ms
    case neg =>
      go_wp2
      go_ret
      exact ⟨ret_bool (by rw [unhide HS, inB_true h1 h2, inB_false (by omega)]; simp), unhide HB1⟩
    by_cases m2 : ms ≤ 1000
    case neg =>
      go_wp2
      go_ret
      exact ⟨ret_bool (by rw [unhide HS, inB_true h1 h2, inB_false (by omega)]; simp; omega), unhide HB1⟩
    go_wp2
    go_ret
    exact ⟨ret_bool (by rw [unhide HS, inB_true h1 h2, inB_true m1 m2]; simp), unhide HB1⟩

set_option maxRecDepth 100000 in
set_option maxHeartbeats 2000000 in
theorem l04Ask_any (q : Ask) (w : World) (hn : q.node.length ≤ 1048576) :
    Calls Try.prog 53 #[askv q] w fun e w' => e = .returned (.bool (askOk q)) ∧ Below w.heap.size w w' := by
  obtain ⟨x0, x1, ct, nd, ms⟩ := q
  simp only at hn
  have HB0 := hide (below_al (Below.refl _ w) (.cells #[.int .i64 x0, .int .i64 x1, .int .i64 ct, .string (bs nd), .int .i64 ms] 78))
  have P0 := hide (blk_new w #[.int .i64 x0, .int .i64 x1, .int .i64 ct, .string (bs nd), .int .i64 ms] 78)
  obtain ⟨sm, hsm⟩ : ∃ r, someR x0 x1 = r := ⟨_, rfl⟩
  obtain ⟨nk, hnk⟩ : ∃ r, nameOk nd = r := ⟨_, rfl⟩
  obtain ⟨ic, hic⟩ : ∃ r, inB ct 1 1000 = r := ⟨_, rfl⟩
  obtain ⟨im, him⟩ : ∃ r, inB ms 0 1000 = r := ⟨_, rfl⟩
  have C := hide (fun wx => by have := l04Some_any x0 x1 wx; rw [hsm] at this; exact this)
  have CN := hide (fun wx => by have := specNameOk_any (bs nd) wx (by rw [bs_size]; exact hn); rw [show nameOk (bs nd).data.toList = nk by rw [← hnk]; simp [bs]] at this; exact this)
  have CC := hide (fun wx => by have := l01In_any ct 1 1000 wx; rw [hic] at this; exact this)
  have CD := hide (fun wx => by have := l01In_any ms 0 1000 wx; rw [him] at this; exact this)
  have HS := hide (show askOk ⟨x0, x1, ct, nd, ms⟩ = (sm && (ic && ((decide (nd = []) || nk) && im))) by rw [askOk]; simp only [hsm, hnk, hic, him])
  obtain ⟨o, ho⟩ : ∃ o, askOk ⟨x0, x1, ct, nd, ms⟩ = o := ⟨_, rfl⟩
  have hbz := bs_empty nd
  rw [ho] at HS ⊢
  clear hsm hnk ho hn hic him
  go_enter Try.func53, Try.ntmps53
  go_wp2_with fail
  refine (unhide C _).mono ?_
  rintro e w1 ⟨rfl, hb⟩
  have HB1 := hide (below_on (unhide HB0) hb)
  have P1 := (unhide P0).below hb
  have p2 := P1.at 2
  have p3 := P1.at 3
  have p4 := P1.at 4
  simp at p2 p3 p4
  clear hb P1 P0 HB0 C
  cases sm with
  | false =>
    go_wp2
    go_ret
    exact ⟨ret_bool (by rw [unhide HS]; simp), unhide HB1⟩
  | true =>
  go_wp2_with fail
  refine (unhide CC _).mono ?_
  rintro e w2 ⟨rfl, rfl⟩
  clear CC
  cases ic with
  | false =>
    go_wp2
    go_ret
    exact ⟨ret_bool (by rw [unhide HS]; simp), unhide HB1⟩
  | true =>
  by_cases hz : nd = []
  · rw [decide_eq_true hz] at hbz HS
    clear hz CN
    go_wp2_with fail
    refine (unhide CD _).mono ?_
    rintro e w3 ⟨rfl, rfl⟩
    clear CD
    go_wp2
    go_ret
    exact ⟨ret_bool (by rw [unhide HS]; simp), unhide HB1⟩
  · rw [decide_eq_false hz] at hbz HS
    clear hz
    go_wp2_with fail
    refine (unhide CN _).mono ?_
    rintro e w3 ⟨rfl, rfl⟩
    clear CN
    cases nk with
    | false =>
      go_wp2
      go_ret
      exact ⟨ret_bool (by rw [unhide HS]; simp), unhide HB1⟩
    | true =>
    go_wp2_with fail
    refine (unhide CD _).mono ?_
    rintro e w4 ⟨rfl, rfl⟩
    clear CD
    go_wp2
    go_ret
    exact ⟨ret_bool (by rw [unhide HS]; simp), unhide HB1⟩
end Go.Proofs.Ytdobldomamegdaa
