/-
  Several texts of this claim in one: OkA, CountI, OkB, QueuesOkS, LeafS, PathM (pack.py put them together); each says in its own remark what is proved.
-/
import Derived.Test.YtbkchepelhkjlaaGreatStAll
import Derived.Test.YtbkchepelhkjlaaGreatPackK
import Derived.Test.YtbkchepelhkjlaaGreatPackJ
import Derived.Test.YtbkchepelhkjlaaGreatPackA
import Derived.Shelf.Abstract
import Derived.Deep.RegionWith
/-
 An amount that is something, an ask that is right: by the program and by the model; walks over the dump.
-/
namespace Go.Proofs.YtbkchepelhkjlaaGreat
open Go.RowKit
set_option linter.unusedVariables false
def someR (a b : Int) : Bool := resOk a b && !(decide (a = 0) && decide (b = 0))

set_option maxRecDepth 100000 in
set_option maxHeartbeats 1000000 in
theorem something_any (a b : Int) (w : World) :
  Calls Tryz.prog 129 #[rv a b] w fun e w' => e = .returned (.bool (someR a b)) ∧ Below w.heap.size w w' := by
 have HB0 := hide (below_al (Below.refl _ w) (.cells #[.int .i64 a, .int .i64 b] 33))
 have P0 := hide (blk_new w #[.int .i64 a, .int .i64 b] 33)
 obtain ⟨r, hr⟩ : ∃ r, resOk a b = r := ⟨_, rfl⟩
 have C := hide (fun wx => by have := ok_bel a b wx; rw [hr] at this; exact this)
 have HS := hide (show someR a b = (r && !(decide (a = 0) && decide (b = 0))) by rw [someR, hr])
 obtain ⟨o, ho⟩ : ∃ o, someR a b = o := ⟨_, rfl⟩
 rw [ho] at HS ⊢
 clear hr ho
 go_enter Tryz.func129, Tryz.ntmps129
 go_wp2_with fail
 refine (unhide C _).mono ?_
 rintro e w1 ⟨rfl, hb⟩
 have HB1 := hide (below_on (unhide HB0) hb)
 have P1 := (unhide P0).below hb
 have p0 := P1.at 0
 have p1 := P1.at 1
 simp at p0 p1
 clear hb P1 P0 HB0 C
 cases r with
 | false =>
  go_wp2
  go_ret
  exact ⟨ret_bool (by rw [unhide HS]; simp), unhide HB1⟩
 | true =>
  by_cases ha : a = 0
  ·by_cases hbz : b = 0
   ·subst ha hbz
    go_wp2
    go_ret
    exact ⟨ret_bool (by rw [unhide HS]; simp), unhide HB1⟩
   ·subst ha
    go_wp2
    go_ret
    exact ⟨ret_bool (by rw [unhide HS]; simp [hbz]), unhide HB1⟩
  ·go_wp2
   go_ret
   exact ⟨ret_bool (by rw [unhide HS]; simp [ha]), unhide HB1⟩
theorem specOk_bel (a b : Int) (w : World) :
  Calls Tryz.prog 121 #[rv a b] w fun e w' => e = .returned (.bool (resOk a b)) ∧ Below w.heap.size w w' :=
 (specResOk_any a b w).mono fun e w' h => ⟨h.1, by rw [h.2]; exact below_al (Below.refl _ _) _⟩

set_option maxRecDepth 100000 in
set_option maxHeartbeats 1000000 in
theorem l04Some_any (a b : Int) (w : World) :
  Calls Tryz.prog 83 #[rv a b] w fun e w' => e = .returned (.bool (someR a b)) ∧ Below w.heap.size w w' := by
 have HB0 := hide (below_al (Below.refl _ w) (.cells #[.int .i64 a, .int .i64 b] 33))
 have P0 := hide (blk_new w #[.int .i64 a, .int .i64 b] 33)
 obtain ⟨r, hr⟩ : ∃ r, resOk a b = r := ⟨_, rfl⟩
 have C := hide (fun wx => by have := specOk_bel a b wx; rw [hr] at this; exact this)
 have HS := hide (show someR a b = (r && !(decide (a = 0) && decide (b = 0))) by rw [someR, hr])
 obtain ⟨o, ho⟩ : ∃ o, someR a b = o := ⟨_, rfl⟩
 rw [ho] at HS ⊢
 clear hr ho
 go_enter Tryz.func83, Tryz.ntmps83
 go_wp2_with fail
 refine (unhide C _).mono ?_
 rintro e w1 ⟨rfl, hb⟩
 have HB1 := hide (below_on (unhide HB0) hb)
 have P1 := (unhide P0).below hb
 have p0 := P1.at 0
 have p1 := P1.at 1
 simp at p0 p1
 clear hb P1 P0 HB0 C
 cases r with
 | false =>
  go_wp2
  go_ret
  exact ⟨ret_bool (by rw [unhide HS]; simp), unhide HB1⟩
 | true =>
  by_cases ha : a = 0
  ·by_cases hbz : b = 0
   ·subst ha hbz
    go_wp2
    go_ret
    exact ⟨ret_bool (by rw [unhide HS]; simp), unhide HB1⟩
   ·subst ha
    go_wp2
    go_ret
    exact ⟨ret_bool (by rw [unhide HS]; simp [hbz]), unhide HB1⟩
  ·go_wp2
   go_ret
   exact ⟨ret_bool (by rw [unhide HS]; simp [ha]), unhide HB1⟩

def askOk (q : Ask) : Bool := someR q.mem q.cpu && (inB q.count 1 1000 && ((decide (q.node = []) || nameOk q.node) && inB q.missed 0 1000))

set_option maxRecDepth 100000 in
set_option maxHeartbeats 2000000 in
theorem askOk_any (q : Ask) (w : World) (hn : q.node.length ≤ 1048576) :
  Calls Tryz.prog 164 #[askv q] w fun e w' => e = .returned (.bool (askOk q)) ∧ Below w.heap.size w w' := by
 obtain ⟨x0, x1, ct, nd, ms⟩ := q
 simp only at hn
 have HB0 := hide (below_al (Below.refl _ w) (.cells #[.int .i64 x0, .int .i64 x1, .int .i64 ct, .string (bs nd), .int .i64 ms] 106))
 have P0 := hide (blk_new w #[.int .i64 x0, .int .i64 x1, .int .i64 ct, .string (bs nd), .int .i64 ms] 106)
 obtain ⟨sm, hsm⟩ : ∃ r, someR x0 x1 = r := ⟨_, rfl⟩
 obtain ⟨nk, hnk⟩ : ∃ r, nameOk nd = r := ⟨_, rfl⟩
 have C := hide (fun wx => by have := something_any x0 x1 wx; rw [hsm] at this; exact this)
 have CN := hide (fun wx => by have := implNameOk_any (bs nd) wx (by rw [bs_size]; exact hn); rw [show nameOk (bs nd).data.toList = nk by rw [← hnk]; simp [bs]] at this; exact this)
 have HS := hide (show askOk ⟨x0, x1, ct, nd, ms⟩ = (sm && (inB ct 1 1000 && ((decide (nd = []) || nk) && inB ms 0 1000))) by rw [askOk]; simp only [hsm, hnk])
 obtain ⟨o, ho⟩ : ∃ o, askOk ⟨x0, x1, ct, nd, ms⟩ = o := ⟨_, rfl⟩
 have hbz := bs_empty nd
 rw [ho] at HS ⊢
 clear hsm hnk ho hn
 go_enter Tryz.func164, Tryz.ntmps164
 go_wp2_with fail
 refine (unhide C _).mono ?_
 rintro e w1 ⟨rfl, hb⟩
 have HB1 := hide (below_on (unhide HB0) hb)
 have P1 := (unhide P0).below hb
 have p2 := P1.at 2
 have p3 := P1.at 3
 have p4 := P1.at 4
 simp at p2 p3 p4
 clear hb P1 P0 HB0 C
 cases sm with
 | false =>
  go_wp2
  go_ret
  exact ⟨ret_bool (by rw [unhide HS]; simp), unhide HB1⟩
 | true =>
 by_cases h1 : 1 ≤ ct
 case neg =>
  go_wp2
  go_ret
  exact ⟨ret_bool (by rw [unhide HS, inB_false (by omega)]; simp), unhide HB1⟩
 by_cases h2 : ct ≤ 1000
 case neg =>
  go_wp2
  go_ret
  exact ⟨ret_bool (by rw [unhide HS, inB_false (by omega)]; simp), unhide HB1⟩
 by_cases hz : nd = []
 ·rw [decide_eq_true hz] at hbz HS
  clear hz
  by_cases m1 : 0 ≤ ms
  case neg =>
   go_wp2
   go_ret
   exact ⟨ret_bool (by rw [unhide HS, inB_true h1 h2, inB_false (by omega)]; simp), unhide HB1⟩
  by_cases m2 : ms ≤ 1000
  case neg =>
   go_wp2
   go_ret
   exact ⟨ret_bool (by rw [unhide HS, inB_true h1 h2, inB_false (x := ms) (by omega)]; simp; omega), unhide HB1⟩
  go_wp2
  go_ret
  exact ⟨ret_bool (by rw [unhide HS, inB_true h1 h2, inB_true m1 m2]; simp), unhide HB1⟩
 ·rw [decide_eq_false hz] at hbz HS
  clear hz
  go_wp2_with fail
  refine (unhide CN _).mono ?_
  rintro e w2 ⟨rfl, rfl⟩
  clear CN
  cases nk with
  | false =>
   go_wp2
   go_ret
   exact ⟨ret_bool (by rw [unhide HS]; simp), unhide HB1⟩
  | true =>
  by_cases m1 : 0 ≤ ms
  case neg =>
   go_wp2
   go_ret
   exact ⟨ret_bool (by rw [unhide HS, inB_true h1 h2, inB_false (by omega)]; simp), unhide HB1⟩
  by_cases m2 : ms ≤ 1000
  case neg =>
   go_wp2
   go_ret
   exact ⟨ret_bool (by rw [unhide HS, inB_true h1 h2, inB_false (by omega)]; simp; omega), unhide HB1⟩
  go_wp2
  go_ret
  exact ⟨ret_bool (by rw [unhide HS, inB_true h1 h2, inB_true m1 m2]; simp), unhide HB1⟩

set_option maxRecDepth 100000 in
set_option maxHeartbeats 2000000 in
theorem l04Ask_any (q : Ask) (w : World) (hn : q.node.length ≤ 1048576) :
  Calls Tryz.prog 132 #[askv q] w fun e w' => e = .returned (.bool (askOk q)) ∧ Below w.heap.size w w' := by
 obtain ⟨x0, x1, ct, nd, ms⟩ := q
 simp only at hn
 have HB0 := hide (below_al (Below.refl _ w) (.cells #[.int .i64 x0, .int .i64 x1, .int .i64 ct, .string (bs nd), .int .i64 ms] 106))
 have P0 := hide (blk_new w #[.int .i64 x0, .int .i64 x1, .int .i64 ct, .string (bs nd), .int .i64 ms] 106)
 obtain ⟨sm, hsm⟩ : ∃ r, someR x0 x1 = r := ⟨_, rfl⟩
 obtain ⟨nk, hnk⟩ : ∃ r, nameOk nd = r := ⟨_, rfl⟩
 obtain ⟨ic, hic⟩ : ∃ r, inB ct 1 1000 = r := ⟨_, rfl⟩
 obtain ⟨im, him⟩ : ∃ r, inB ms 0 1000 = r := ⟨_, rfl⟩
 have C := hide (fun wx => by have := l04Some_any x0 x1 wx; rw [hsm] at this; exact this)
 have CN := hide (fun wx => by have := specNameOk_any (bs nd) wx (by rw [bs_size]; exact hn); rw [show nameOk (bs nd).data.toList = nk by rw [← hnk]; simp [bs]] at this; exact this)
 have CC := hide (fun wx => by have := l01In_any ct 1 1000 wx; rw [hic] at this; exact this)
 have CD := hide (fun wx => by have := l01In_any ms 0 1000 wx; rw [him] at this; exact this)
 have HS := hide (show askOk ⟨x0, x1, ct, nd, ms⟩ = (sm && (ic && ((decide (nd = []) || nk) && im))) by rw [askOk]; simp only [hsm, hnk, hic, him])
 obtain ⟨o, ho⟩ : ∃ o, askOk ⟨x0, x1, ct, nd, ms⟩ = o := ⟨_, rfl⟩
 have hbz := bs_empty nd
 rw [ho] at HS ⊢
 clear hsm hnk ho hn hic him
 go_enter Tryz.func132, Tryz.ntmps132
 go_wp2_with fail
 refine (unhide C _).mono ?_
 rintro e w1 ⟨rfl, hb⟩
 have HB1 := hide (below_on (unhide HB0) hb)
 have P1 := (unhide P0).below hb
 have p2 := P1.at 2
 have p3 := P1.at 3
 have p4 := P1.at 4
 simp at p2 p3 p4
 clear hb P1 P0 HB0 C
 cases sm with
 | false =>
  go_wp2
  go_ret
  exact ⟨ret_bool (by rw [unhide HS]; simp), unhide HB1⟩
 | true =>
 go_wp2_with fail
 refine (unhide CC _).mono ?_
 rintro e w2 ⟨rfl, rfl⟩
 clear CC
 cases ic with
 | false =>
  go_wp2
  go_ret
  exact ⟨ret_bool (by rw [unhide HS]; simp), unhide HB1⟩
 | true =>
 by_cases hz : nd = []
 ·rw [decide_eq_true hz] at hbz HS
  clear hz CN
  go_wp2_with fail
  refine (unhide CD _).mono ?_
  rintro e w3 ⟨rfl, rfl⟩
  clear CD
  go_wp2
  go_ret
  exact ⟨ret_bool (by rw [unhide HS]; simp), unhide HB1⟩
 ·rw [decide_eq_false hz] at hbz HS
  clear hz
  go_wp2_with fail
  refine (unhide CN _).mono ?_
  rintro e w3 ⟨rfl, rfl⟩
  clear CN
  cases nk with
  | false =>
   go_wp2
   go_ret
   exact ⟨ret_bool (by rw [unhide HS]; simp), unhide HB1⟩
  | true =>
  go_wp2_with fail
  refine (unhide CD _).mono ?_
  rintro e w4 ⟨rfl, rfl⟩
  clear CD
  go_wp2
  go_ret
  exact ⟨ret_bool (by rw [unhide HS]; simp), unhide HB1⟩
end Go.Proofs.YtbkchepelhkjlaaGreat

/-
 Whether a number counts, by the program; a walk over the dump.
-/
namespace Go.Proofs.YtbkchepelhkjlaaGreat
open Go.RowKit
set_option linter.unusedVariables false
set_option maxHeartbeats 400000 in
theorem countOk_any (n : Int) (w : World) :
  Calls Tryz.prog 124 #[.int .i64 n] w fun e w' => e = .returned (.bool (inB n 1 1000000000)) ∧ w = w' := by
 by_cases h1 : 1 ≤ n
 ·by_cases h2 : n ≤ 1000000000
  ·go_enter Tryz.func124, Tryz.ntmps124
   go_wp2
   go_ret
   exact ⟨ret_bool (inB_true h1 h2).symm, rfl⟩
  ·go_enter Tryz.func124, Tryz.ntmps124
   go_wp2
   go_ret
   exact ⟨ret_bool (inB_false (by omega)).symm, rfl⟩
 ·go_enter Tryz.func124, Tryz.ntmps124
  go_wp2
  go_ret
  exact ⟨ret_bool (inB_false (by omega)).symm, rfl⟩
end Go.Proofs.YtbkchepelhkjlaaGreat

/-
 Asks that are right, an application's; the numbers of a state: by the program; walks over the dump.
-/
namespace Go.Proofs.YtbkchepelhkjlaaGreat
open Go.RowKit
set_option linter.unusedVariables false
def idxK (p : Ask → Bool) : List Ask → Nat → Int
 | [], _ => -1
 | q :: t, k => if p q = true then (k : Int) else idxK p t (k + 1)
theorem idxK_step {p : Ask → Bool} {l : List Ask} {k : Nat} (h : k < l.length) : idxK p (l.drop k) k = if p l[k] = true then (k : Int) else idxK p (l.drop (k + 1)) (k + 1) := by
 rw [List.drop_eq_getElem_cons h, idxK]
theorem idxK_end {p : Ask → Bool} {l : List Ask} {k : Nat} (h : l.length ≤ k) : idxK p (l.drop k) k = -1 := by
 rw [List.drop_of_length_le h]; rfl
theorem idxK_has (p : Ask → Bool) : ∀ (l : List Ask) (k : Nat), decide (0 ≤ idxK p l k) = l.any p
 | [], _ => by simp [idxK]
 | q :: t, k => by
  rw [idxK, List.any_cons]
  by_cases h : p q = true
  ·rw [if_pos h, h]; simp
  ·rw [if_neg h, idxK_has p t (k + 1)]; simp [h]

set_option maxRecDepth 100000 in
set_option maxHeartbeats 2000000 in
theorem indexFuncK_any (g : Nat) (lb : Array Value) (eg : ∀ args w, (callFunc g args).run Tryz.prog w = .ok (.enter g args) w) (p : Ask → Bool) (ao : Option Addr) (len cap : Nat) (l : List Ask) (w : World) (h : AskRow w ao len l) (hl : len ≤ 1048576)
  (hp : ∀ wx (q : Ask), q ∈ l → Below w.heap.size w wx → Calls Tryz.prog g (#[askv q] ++ lb) wx fun e w' => e = .returned (.bool (p q)) ∧ Below wx.heap.size wx w') :
  Calls Tryz.prog 175 #[.slice ao len cap, .func (.func g) #[] lb] w fun e w' => e = .returned (.int .i64 (idxK p l 0)) ∧ Below w.heap.size w w' := by
 have HR := hide h
 have HL := hide h.1
 have HP := hide hp
 clear h hp
 go_enter Tryz.func175, Tryz.ntmps175
 go_wp2
 go_loopw [5, 8] (fun _ i wr => ∃ k : Nat, k ≤ len ∧ i = .int .i64 k ∧ Hid (idxK p l 0 = idxK p (l.drop k) k) ∧ Hid (Below w.heap.size w wr)) (fun _ i _ => len - (intOf i).toNat)
 case atStart => exact ⟨0, Nat.zero_le _, rfl, hide (by simp), hide (Below.refl _ _)⟩
 case round =>
  obtain ⟨k, hk, rfl, hq, HB⟩ := hrel
  by_cases hlt : k < len
  ·obtain ⟨b, off, rfl, hx⟩ := ((unhide HR).below (unhide HB)).at hlt
   have hkl : k < l.length := by have := unhide HL; omega
   have hst := hide (idxK_step (p := p) (l := l) (k := k) hkl)
   obtain ⟨c0, c1, c2, c3, c4⟩ := hx hkl
   clear hx
   have HC := hide (unhide HP wr l[k] (List.getElem_mem _) (unhide HB))
   obtain ⟨⟨y0, y1, y2, nd, y4⟩, hs⟩ : ∃ s, l[k] = s := ⟨_, rfl⟩
   rw [hs] at c0 c1 c2 c3 c4 hst HC
   simp only at c0 c1 c2 c3 c4
   clear hs hkl HP
   cases hpq : p ⟨y0, y1, y2, nd, y4⟩ with
   | true =>
    rw [hpq] at HC
    have HQ := hide hpq
    clear hpq
    go_wp2_with (go_at_fn g; refine (unhide HC).mono ?_; rintro e w' ⟨rfl, hb⟩)
    go_ret
    exact ⟨ret_int (by rw [unhide hq, unhide hst, if_pos (unhide HQ)]), below_on (unhide HB) hb⟩
   | false =>
    rw [hpq] at HC
    have HQ := hide hpq
    clear hpq
    go_wp2_with (go_at_fn g; refine (unhide HC).mono ?_; rintro e w' ⟨rfl, hb⟩)
    go_roundw
    case rel => exact ⟨k + 1, by omega, by go_num, hide (by rw [unhide hq, unhide hst, if_neg (by rw [unhide HQ]; simp)]), hide (below_on (unhide HB) hb)⟩
    case measure => simp [intOf]; omega
  ·go_wp2
   go_ret
   exact ⟨ret_int (by rw [unhide hq, idxK_end (by have := unhide HL; omega)]), unhide HB⟩

set_option maxRecDepth 100000 in
set_option maxHeartbeats 1000000 in
theorem containsFuncK_any (g : Nat) (lb : Array Value) (eg : ∀ args w, (callFunc g args).run Tryz.prog w = .ok (.enter g args) w) (p : Ask → Bool) (ao : Option Addr) (len cap : Nat) (l : List Ask) (w : World) (h : AskRow w ao len l) (hl : len ≤ 1048576)
  (hp : ∀ wx (q : Ask), q ∈ l → Below w.heap.size w wx → Calls Tryz.prog g (#[askv q] ++ lb) wx fun e w' => e = .returned (.bool (p q)) ∧ Below wx.heap.size wx w') :
  Calls Tryz.prog 162 #[.slice ao len cap, .func (.func g) #[] lb] w fun e w' => e = .returned (.bool (l.any p)) ∧ Below w.heap.size w w' := by
 have C := hide (indexFuncK_any g lb eg p ao len cap l w h hl hp)
 have HS := hide (idxK_has p l 0)
 obtain ⟨i, hi⟩ : ∃ i, idxK p l 0 = i := ⟨_, rfl⟩
 obtain ⟨b, hb⟩ : ∃ b, l.any p = b := ⟨_, rfl⟩
 rw [hi] at C HS
 rw [hb] at HS ⊢
 clear h hp hi hb
 go_enter Tryz.func162, Tryz.ntmps162
 go_wp2_with fail
 refine (unhide C).mono ?_
 rintro e w1 ⟨rfl, hb⟩
 have HB := hide hb
 clear hb
 by_cases h0 : 0 ≤ i
 ·go_wp2
  go_ret
  exact ⟨ret_bool (by first | exact unhide HS | (rw [← unhide HS]; simp [h0])), unhide HB⟩
 ·go_wp2
  go_ret
  exact ⟨ret_bool (by first | exact unhide HS | (rw [← unhide HS]; simp [h0])), unhide HB⟩

set_option maxRecDepth 100000 in
set_option maxHeartbeats 1000000 in
theorem askNot_any (q : Ask) (w : World) (hn : q.node.length ≤ 1048576) :
  Calls Tryz.prog 163 #[askv q] w fun e w' => e = .returned (.bool (!askOk q)) ∧ Below w.heap.size w w' := by
 have C := hide (askOk_any q (w.alloc (.cells #[.int .i64 q.mem, .int .i64 q.cpu, .int .i64 q.count, .string (bs q.node), .int .i64 q.missed] 106)) hn)
 obtain ⟨o, ho⟩ : ∃ o, askOk q = o := ⟨_, rfl⟩
 rw [ho] at C ⊢
 obtain ⟨y0, y1, y2, nd, y4⟩ := q
 clear ho
 go_enter Tryz.func163, Tryz.ntmps163
 go_wp2_with fail
 refine (unhide C).mono ?_
 rintro e w1 ⟨rfl, hb⟩
 have HB := hide (below_on (below_al (Below.refl _ w) _) hb)
 clear hb C
 cases o
 ·go_wp2
  go_ret
  exact ⟨rfl, unhide HB⟩
 ·go_wp2
  go_ret
  exact ⟨rfl, unhide HB⟩

def asksOk (l : List Ask) : Bool := decide (l.length ≤ 10) && l.all askOk
set_option maxRecDepth 100000 in
set_option maxHeartbeats 1000000 in
theorem asksOk_any (id : Int) (qu : List UInt8) (ao : Option Addr) (len cap : Nat) (l : List Ask) (w : World) (h : AskRow w ao len l) (hl : len ≤ 1048576) (hn : ∀ q ∈ l, q.node.length ≤ 1048576) :
  Calls Tryz.prog 126 #[applv id qu ao len cap] w fun e w' => e = .returned (.bool (asksOk l)) ∧ Below w.heap.size w w' := by
 have hb0 := below_al (Below.refl _ w) (.cells #[.int .i64 id, .string (bs qu), .slice ao len cap] 41)
 have C := hide (containsFuncK_any 163 #[] (enters_of Tryz.func163 (by kernel_rfl) rfl) (fun q => !askOk q) ao len cap l _ (h.below hb0) hl (fun wx q hq _ => askNot_any q wx (hn q hq)))
 have HS := hide (show asksOk l = (decide (len ≤ 10) && !(l.any fun q => !askOk q)) by rw [asksOk, ← h.1]; congr 1; rw [List.not_any_eq_all_not]; simp)
 obtain ⟨o, ho⟩ : ∃ o, asksOk l = o := ⟨_, rfl⟩
 obtain ⟨b, hb⟩ : ∃ o, (l.any fun q => !askOk q) = o := ⟨_, rfl⟩
 rw [ho] at HS ⊢
 rw [hb] at HS C
 have HB0 := hide hb0
 clear ho hb h hn hb0
 by_cases h10 : len ≤ 10
 ·have hi : (len : Int) ≤ 10 := by omega
  rw [decide_eq_true h10] at HS
  clear h10
  go_enter Tryz.func126, Tryz.ntmps126
  go_wp2_with fail
  refine (unhide C).mono ?_
  rintro e w1 ⟨rfl, hb⟩
  have HB := hide (below_on (unhide HB0) hb)
  clear hb C HB0
  go_wp2
  go_ret
  exact ⟨ret_bool (by rw [unhide HS]; simp), unhide HB⟩
 ·have hi : ¬ (len : Int) ≤ 10 := by omega
  rw [decide_eq_false h10] at HS
  clear h10 C
  go_enter Tryz.func126, Tryz.ntmps126
  go_wp2
  go_ret
  exact ⟨ret_bool (by rw [unhide HS]; simp), unhide HB0⟩

def numsOk (s : St) : Bool := inB s.clock 0 1000000000 && (inB s.epoch 1 1000000000 && (inB s.next 1 1000000000 && inB s.serial 1 1000000000))
set_option maxRecDepth 100000 in
set_option maxHeartbeats 1000000 in
theorem numbersOk_any (x : Sls) (s : St) (w : World) :
  Calls Tryz.prog 75 #[sv x s] w fun e w' => e = .returned (.bool (numsOk s)) ∧ Below w.heap.size w w' := by
 obtain ⟨qa, ql, qc, aa, al, ac, ma, ml, mc, ca, cl, cc⟩ := x
 obtain ⟨qs, clock, epoch, next, serial, apps, ms, cs⟩ := s
 have HB0 := hide (below_al (Below.refl _ w) (.cells (svc ⟨qa, ql, qc, aa, al, ac, ma, ml, mc, ca, cl, cc⟩ ⟨qs, clock, epoch, next, serial, apps, ms, cs⟩) 29))
 simp only [numsOk]
 obtain ⟨b0, h0⟩ : ∃ b, inB clock 0 1000000000 = b := ⟨_, rfl⟩
 obtain ⟨b1, h1⟩ : ∃ b, inB epoch 1 1000000000 = b := ⟨_, rfl⟩
 obtain ⟨b2, h2⟩ : ∃ b, inB next 1 1000000000 = b := ⟨_, rfl⟩
 obtain ⟨b3, h3⟩ : ∃ b, inB serial 1 1000000000 = b := ⟨_, rfl⟩
 have C0 := hide (fun wx => by have := numberOk_any clock wx; rw [h0] at this; exact this)
 have C1 := hide (fun wx => by have := countOk_any epoch wx; rw [h1] at this; exact this)
 have C2 := hide (fun wx => by have := countOk_any next wx; rw [h2] at this; exact this)
 have C3 := hide (fun wx => by have := countOk_any serial wx; rw [h3] at this; exact this)
 rw [h0, h1, h2, h3]
 clear h0 h1 h2 h3
 go_enter Tryz.func75, Tryz.ntmps75
 go_wp2_with fail
 refine (unhide C0 _).mono ?_
 rintro e w1 ⟨rfl, rfl⟩
 cases b0 with
 | false =>
  go_wp2
  go_ret
  exact ⟨rfl, unhide HB0⟩
 | true =>
 go_wp2_with fail
 refine (unhide C1 _).mono ?_
 rintro e w1 ⟨rfl, rfl⟩
 cases b1 with
 | false =>
  go_wp2
  go_ret
  exact ⟨rfl, unhide HB0⟩
 | true =>
 go_wp2_with fail
 refine (unhide C2 _).mono ?_
 rintro e w1 ⟨rfl, rfl⟩
 cases b2 with
 | false =>
  go_wp2
  go_ret
  exact ⟨rfl, unhide HB0⟩
 | true =>
 go_wp2_with fail
 refine (unhide C3 _).mono ?_
 rintro e w1 ⟨rfl, rfl⟩
 go_wp2
 go_ret
 exact ⟨ret_bool (by simp), unhide HB0⟩
end Go.Proofs.YtbkchepelhkjlaaGreat

/-
 Whether queues are a tree: what the model's QueuesOk answers; a walk over the dump.
-/
namespace Go.Proofs.YtbkchepelhkjlaaGreat
open Go.RowKit
set_option linter.unusedVariables false
set_option maxRecDepth 100000 in
set_option maxHeartbeats 4000000 in
theorem specQueuesOk_any (ao : Option Addr) (len cap : Nat) (l : List Q) (w : World) (h : QRow w ao len l) (hl : len ≤ 1048576) (hn : ∀ q ∈ l, q.name.length ≤ 1048576) :
  Calls Tryz.prog 79 #[.slice ao len cap] w fun e w' => e = .returned (.bool (queuesOk l)) ∧ Below w.heap.size w w' := by
 have HR := hide h
 have HL := hide h.1
 have HN := hide hn
 clear h hn
 go_enter Tryz.func79, Tryz.ntmps79
 go_wp2
 go_loopw [3] (fun i wr => ∃ k : Nat, k ≤ len ∧ i = .int .i64 k ∧ Hid (okFrom l l 0 = okFrom l (l.drop k) k) ∧ Hid (Below w.heap.size w wr)) (fun i _ => len - (intOf i).toNat)
 case atStart => exact ⟨0, Nat.zero_le _, rfl, hide (by simp), hide (Below.refl _ _)⟩
 case round =>
  obtain ⟨k, hk, rfl, hp, HB⟩ := hrel
  by_cases hlt : k < len
  ·have HR2 := hide ((unhide HR).below (unhide HB))
   obtain ⟨b, off, rfl, hq⟩ := (unhide HR2).at hlt
   have hkl : k < l.length := by have := unhide HL; omega
   have hst := hide (okFrom_step (l := l) (k := k) hkl)
   obtain ⟨c0, c1, c2, c3⟩ := hq hkl
   have hz := unhide HN l[k] (List.getElem_mem _)
   clear hq
   obtain ⟨⟨nm, pa, du, mo⟩, hs⟩ : ∃ s, l[k] = s := ⟨_, rfl⟩
   rw [hs] at c0 c1 c2 c3 hst hz
   simp only at c0 c1 c2 c3 hz
   clear hs hkl
   obtain ⟨b1, g1⟩ : ∃ b, nameOk nm = b := ⟨_, rfl⟩
   obtain ⟨p1, g2⟩ : ∃ p, place l nm = p := ⟨_, rfl⟩
   obtain ⟨p2, g3⟩ : ∃ p, place l pa = p := ⟨_, rfl⟩
   have CN := hide (fun wx => by have := specNameOk_any (bs nm) wx (by rw [bs_size]; exact hz); rw [show (bs nm).data.toList = nm by simp [bs], g1] at this; exact this)
   have RR := (unhide HR2).below (below_al (Below.refl _ wr) (.cells #[.string (bs nm), .string (bs pa), .int .i64 du, .int .i64 mo] 59))
   have CP1 := hide (by have := l03Place_any (some ⟨b, off, none⟩) len cap l nm _ RR hl; rw [g2] at this; exact this)
   have CP2 := hide (by have := l03Place_any (some ⟨b, off, none⟩) len cap l pa _ RR hl; rw [g3] at this; exact this)
   have HB2 := hide (below_al (unhide HB) (.cells #[.string (bs nm), .string (bs pa), .int .i64 du, .int .i64 mo] 59))
   have G1 := hide g1
   have G2 := hide g2
   have G3 := hide g3
   clear g1 g2 g3 RR HR2 hz
   cases b1 with
   | false =>
    go_wp2_with (first | (go_at_call 130; refine (unhide CN _).mono ?_; rintro e w' ⟨rfl, rfl⟩) | (go_at_call_of 91 nm; refine (unhide CP1).mono ?_; rintro e w' ⟨rfl, rfl⟩) | (go_at_call_of 91 pa; refine (unhide CP2).mono ?_; rintro e w' ⟨rfl, rfl⟩) | (go_at_call 80; refine (l01In_any _ _ _ _).mono ?_; rintro e w' ⟨rfl, rfl⟩))
    go_ret
    exact ⟨ret_bool (ok_no1 (by rw [unhide hp, unhide hst]; simp [qOk, unhide G1])).symm, unhide HB2⟩
   | true =>
    by_cases e2 : p1 = k
    ·subst e2
     cases h3 : inB mo 0 10000
     ·skip
      go_wp2_with (first | (go_at_call 130; refine (unhide CN _).mono ?_; rintro e w' ⟨rfl, rfl⟩) | (go_at_call_of 91 nm; refine (unhide CP1).mono ?_; rintro e w' ⟨rfl, rfl⟩) | (go_at_call_of 91 pa; refine (unhide CP2).mono ?_; rintro e w' ⟨rfl, rfl⟩) | (go_at_call 80; refine (l01In_any _ _ _ _).mono ?_; rintro e w' ⟨rfl, rfl⟩))
      go_ret
      exact ⟨ret_bool (ok_no1 (by rw [unhide hp, unhide hst]; simp [qOk, unhide G1, unhide G2, h3])).symm, unhide HB2⟩
     ·cases h4 : inB du 0 mo
      ·skip
       go_wp2_with (first | (go_at_call 130; refine (unhide CN _).mono ?_; rintro e w' ⟨rfl, rfl⟩) | (go_at_call_of 91 nm; refine (unhide CP1).mono ?_; rintro e w' ⟨rfl, rfl⟩) | (go_at_call_of 91 pa; refine (unhide CP2).mono ?_; rintro e w' ⟨rfl, rfl⟩) | (go_at_call 80; refine (l01In_any _ _ _ _).mono ?_; rintro e w' ⟨rfl, rfl⟩))
       go_ret
       exact ⟨ret_bool (ok_no1 (by rw [unhide hp, unhide hst]; simp [qOk, unhide G1, unhide G2, h3, h4])).symm, unhide HB2⟩
      ·by_cases hk0 : k = 0
       ·have k1 : ((k : Int) == 0) = true := by simp [hk0]
        have k2 : ¬ (0 : Int) < k := by omega
        have k3 : ¬ 0 < k := by omega
        have HK0 := hide hk0
        clear hk0
        have hbe := bs_empty pa
        by_cases e5 : pa = []
        ·have E5 := hide e5
         rw [decide_eq_true e5] at hbe
         clear e5
         by_cases e6 : du = 10000
         ·subst e6
          go_wp2_with (first | (go_at_call 130; refine (unhide CN _).mono ?_; rintro e w' ⟨rfl, rfl⟩) | (go_at_call_of 91 nm; refine (unhide CP1).mono ?_; rintro e w' ⟨rfl, rfl⟩) | (go_at_call_of 91 pa; refine (unhide CP2).mono ?_; rintro e w' ⟨rfl, rfl⟩) | (go_at_call 80; refine (l01In_any _ _ _ _).mono ?_; rintro e w' ⟨rfl, rfl⟩))
          go_roundw
          case rel => exact ⟨k + 1, by omega, by go_num, hide (by rw [unhide hp, unhide hst]; simp [qOk, unhide G1, unhide G2, h3, h4, unhide HK0, unhide E5]), HB2⟩
          case measure => simp [intOf]; omega
         ·have E6 := hide e6
          have hd : (du == 10000) = false := by simp [e6]
          clear e6
          go_wp2_with (first | (go_at_call 130; refine (unhide CN _).mono ?_; rintro e w' ⟨rfl, rfl⟩) | (go_at_call_of 91 nm; refine (unhide CP1).mono ?_; rintro e w' ⟨rfl, rfl⟩) | (go_at_call_of 91 pa; refine (unhide CP2).mono ?_; rintro e w' ⟨rfl, rfl⟩) | (go_at_call 80; refine (l01In_any _ _ _ _).mono ?_; rintro e w' ⟨rfl, rfl⟩))
          go_ret
          exact ⟨ret_bool (ok_no1 (by rw [unhide hp, unhide hst]; simp [qOk, unhide G1, unhide G2, h3, h4, unhide HK0, unhide E5, unhide E6])).symm, unhide HB2⟩
        ·have E5 := hide e5
         rw [decide_eq_false e5] at hbe
         clear e5
         go_wp2_with (first | (go_at_call 130; refine (unhide CN _).mono ?_; rintro e w' ⟨rfl, rfl⟩) | (go_at_call_of 91 nm; refine (unhide CP1).mono ?_; rintro e w' ⟨rfl, rfl⟩) | (go_at_call_of 91 pa; refine (unhide CP2).mono ?_; rintro e w' ⟨rfl, rfl⟩) | (go_at_call 80; refine (l01In_any _ _ _ _).mono ?_; rintro e w' ⟨rfl, rfl⟩))
         go_ret
         exact ⟨ret_bool (ok_no1 (by rw [unhide hp, unhide hst]; simp [qOk, unhide G1, unhide G2, h3, h4, unhide HK0, unhide E5])).symm, unhide HB2⟩
       ·have k1 : ((k : Int) == 0) = false := by simp [hk0]
        have k2 : (0 : Int) < k := by omega
        have k3 : 0 < k := by omega
        have HK0 := hide hk0
        clear hk0
        cases h7 : inB p2 0 ((k : Int) - 1)
        ·skip
         go_wp2_with (first | (go_at_call 130; refine (unhide CN _).mono ?_; rintro e w' ⟨rfl, rfl⟩) | (go_at_call_of 91 nm; refine (unhide CP1).mono ?_; rintro e w' ⟨rfl, rfl⟩) | (go_at_call_of 91 pa; refine (unhide CP2).mono ?_; rintro e w' ⟨rfl, rfl⟩) | (go_at_call 80; refine (l01In_any _ _ _ _).mono ?_; rintro e w' ⟨rfl, rfl⟩))
         go_ret
         exact ⟨ret_bool (ok_no1 (by rw [unhide hp, unhide hst]; simp [qOk, unhide G1, unhide G2, unhide G3, h3, h4, h7, unhide HK0])).symm, unhide HB2⟩
        ·skip
         go_wp2_with (first | (go_at_call 130; refine (unhide CN _).mono ?_; rintro e w' ⟨rfl, rfl⟩) | (go_at_call_of 91 nm; refine (unhide CP1).mono ?_; rintro e w' ⟨rfl, rfl⟩) | (go_at_call_of 91 pa; refine (unhide CP2).mono ?_; rintro e w' ⟨rfl, rfl⟩) | (go_at_call 80; refine (l01In_any _ _ _ _).mono ?_; rintro e w' ⟨rfl, rfl⟩))
         go_roundw
         case rel => exact ⟨k + 1, by omega, by go_num, hide (by rw [unhide hp, unhide hst]; simp [qOk, unhide G1, unhide G2, unhide G3, h3, h4, h7, unhide HK0]), HB2⟩
         case measure => simp [intOf]; omega
    ·have h2 : (p1 == (k : Int)) = false := by simp [e2]
     have E2 := hide e2
     clear e2
     go_wp2_with (first | (go_at_call 130; refine (unhide CN _).mono ?_; rintro e w' ⟨rfl, rfl⟩) | (go_at_call_of 91 nm; refine (unhide CP1).mono ?_; rintro e w' ⟨rfl, rfl⟩) | (go_at_call_of 91 pa; refine (unhide CP2).mono ?_; rintro e w' ⟨rfl, rfl⟩) | (go_at_call 80; refine (l01In_any _ _ _ _).mono ?_; rintro e w' ⟨rfl, rfl⟩))
     go_ret
     exact ⟨ret_bool (ok_no1 (by rw [unhide hp, unhide hst]; simp [qOk, unhide G1, unhide G2, unhide E2])).symm, unhide HB2⟩
  ·have ho := hide (show okFrom l l 0 = true by rw [unhide hp]; exact okFrom_end (by have := unhide HL; omega))
   have HD := hide (okFrom_due l 0 (unhide ho))
   have HR2 := hide ((unhide HR).below (unhide HB))
   clear hp
   go_wp2
   go_loopw [5] (fun i wx => ∃ m : Nat, m ≤ len ∧ i = .int .i64 m ∧ Hid (sumsOk l l = sumsOk l (l.drop m)) ∧ wx = wr) (fun i _ => len - (intOf i).toNat)
   case atStart => exact ⟨0, Nat.zero_le _, rfl, hide (by simp), rfl⟩
   case round =>
    obtain ⟨m, hm, rfl, hp, rfl⟩ := hrel
    by_cases hlm : m < len
    ·obtain ⟨b, off, rfl, hq⟩ := (unhide HR2).at hlm
     have hml : m < l.length := by have := unhide HL; omega
     have hst := hide (sumsOk_step (l := l) (k := m) hml)
     have c0 := (hq hml).1
     clear hq
     obtain ⟨nm, hs⟩ : ∃ s, l[m].name = s := ⟨_, rfl⟩
     rw [hs] at c0 hst
     obtain ⟨t, ht⟩ : ∃ t, kidsSum l nm = t := ⟨_, rfl⟩
     have CS := hide (by have := l03Sum_any (some ⟨b, off, none⟩) len cap l nm _ (unhide HR2) hl (unhide HD); rw [ht] at this; exact this)
     have HTT := hide ht
     clear hs hml ht
     by_cases hgt : 10000 < t
     ·go_wp2_with (go_at_call 131; refine (unhide CS).mono ?_; rintro e w' ⟨rfl, rfl⟩)
      go_ret
      exact ⟨ret_bool (ok_no2 (by rw [unhide hp, unhide hst, unhide HTT]; simp; omega)).symm, unhide HB⟩
     ·go_wp2_with (go_at_call 131; refine (unhide CS).mono ?_; rintro e w' ⟨rfl, rfl⟩)
      go_roundw
      case rel => exact ⟨m + 1, by omega, by go_num, hide (by rw [unhide hp, unhide hst, unhide HTT]; simp; omega), trivial⟩
      case measure => simp [intOf]; omega
    ·have hfin := hide (ok_yes (unhide ho) (show sumsOk l l = true by rw [unhide hp]; exact sumsOk_end (by have := unhide HL; omega)))
     have HLL := unhide HL
     have hfin2 := hide (show inB (len : Int) 1 20 = queuesOk l by rw [unhide hfin, HLL])
     clear HLL
     go_wp2_with (go_at_call 80; refine (l01In_any _ _ _ _).mono ?_; rintro e w' ⟨rfl, rfl⟩)
     go_ret
     exact ⟨ret_bool (unhide hfin2), unhide HB⟩
end Go.Proofs.YtbkchepelhkjlaaGreat

/-
 Whether a queue is nobody's parent: what the model's Leaf answers; a walk over the dump.
-/
namespace Go.Proofs.YtbkchepelhkjlaaGreat
open Go.RowKit
set_option linter.unusedVariables false
def noKid (nm : List UInt8) : List Q → Bool
 | [] => true
 | q :: t => decide (q.parent ≠ nm) && noKid nm t
def leaf (l : List Q) (nm : List UInt8) : Bool := noKid nm l && (queuesOk l && decide (0 ≤ place l nm))
theorem noKid_step {nm : List UInt8} {l : List Q} {k : Nat} (h : k < l.length) : noKid nm (l.drop k) = (decide (l[k].parent ≠ nm) && noKid nm (l.drop (k + 1))) := by
 rw [List.drop_eq_getElem_cons h, noKid]
theorem noKid_end {nm : List UInt8} {l : List Q} {k : Nat} (h : l.length ≤ k) : noKid nm (l.drop k) = true := by
 rw [List.drop_of_length_le h]; rfl

set_option maxRecDepth 100000 in
set_option maxHeartbeats 1000000 in
theorem specLeaf_any (ao : Option Addr) (len cap : Nat) (l : List Q) (nm : List UInt8) (w : World) (h : QRow w ao len l) (hl : len ≤ 1048576) (hn : ∀ q ∈ l, q.name.length ≤ 1048576) :
  Calls Tryz.prog 32 #[.slice ao len cap, .string (bs nm)] w fun e w' => e = .returned (.bool (leaf l nm)) ∧ Below w.heap.size w w' := by
 have HR := hide h
 have HL := hide h.1
 have HN := hide hn
 clear h hn
 go_enter Tryz.func32, Tryz.ntmps32
 go_wp2
 go_loopw [5] (fun i wr => ∃ k : Nat, k ≤ len ∧ i = .int .i64 k ∧ Hid (noKid nm l = noKid nm (l.drop k)) ∧ wr = w) (fun i _ => len - (intOf i).toNat)
 case atStart => exact ⟨0, Nat.zero_le _, rfl, hide (by simp), rfl⟩
 case round =>
  obtain ⟨k, hk, rfl, hp, rfl⟩ := hrel
  by_cases hlt : k < len
  ·obtain ⟨b, off, rfl, hq⟩ := (unhide HR).at hlt
   have hkl : k < l.length := by have := unhide HL; omega
   have hst := hide (noKid_step (nm := nm) (l := l) (k := k) hkl)
   have hq0 := (hq hkl).2.1
   clear hq
   obtain ⟨s, hs⟩ : ∃ s, l[k].parent = s := ⟨_, rfl⟩
   rw [hs] at hq0 hst
   have hbe := bs_eq s nm
   clear hs hkl
   by_cases he : s = nm
   ·have HE := hide he
    rw [decide_eq_true he] at hbe
    clear he
    go_wp2
    go_ret
    exact ⟨ret_bool (by rw [leaf, unhide hp, unhide hst]; simp [unhide HE]), Below.refl _ _⟩
   ·have HE := hide he
    rw [decide_eq_false he] at hbe
    clear he
    go_wp2
    go_roundw
    case rel => exact ⟨k + 1, by omega, by go_num, hide (by rw [unhide hp, unhide hst]; simp [unhide HE]), trivial⟩
    case measure => simp [intOf]; omega
  ·have hk2 := hide (show leaf l nm = (queuesOk l && decide (0 ≤ place l nm)) by rw [leaf, unhide hp, noKid_end (by have := unhide HL; omega)]; rfl)
   have CQ := hide (specQueuesOk_any ao len cap l wr (unhide HR) hl (unhide HN))
   obtain ⟨o, ho⟩ : ∃ o, queuesOk l = o := ⟨_, rfl⟩
   obtain ⟨p, hp2⟩ : ∃ p, place l nm = p := ⟨_, rfl⟩
   rw [ho] at CQ hk2
   have CP := hide (fun wx (hb : Below wr.heap.size wr wx) => by have := l03Place_any ao len cap l nm wx ((unhide HR).below hb) hl; rw [hp2] at this; exact this)
   rw [hp2] at hk2
   clear ho hp2 hp
   go_wp2_with fail
   refine (unhide CQ).mono ?_
   rintro e w1 ⟨rfl, hb⟩
   have HB := hide hb
   clear hb CQ
   cases o with
   | false =>
    go_wp2
    go_ret
    exact ⟨ret_bool (by rw [unhide hk2]; rfl), unhide HB⟩
   | true =>
    go_wp2_with fail
    refine (unhide CP _ (unhide HB)).mono ?_
    rintro e w2 ⟨rfl, rfl⟩
    by_cases h0 : 0 ≤ p
    ·go_wp2
     go_ret
     exact ⟨ret_bool (by rw [unhide hk2]; simp [h0]), unhide HB⟩
    ·go_wp2
     go_ret
     exact ⟨ret_bool (by rw [unhide hk2]; simp), unhide HB⟩
end Go.Proofs.YtbkchepelhkjlaaGreat

/-
 The queue, its parent, and so on up to the first one: in plain words.
-/
namespace Go.Proofs.YtbkchepelhkjlaaGreat
open Go.RowKit
set_option linter.unusedVariables false
theorem placeFrom_range (nm : List UInt8) : ∀ (l : List Q) (k : Nat), placeFrom nm l k = -1 ∨ ((k : Int) ≤ placeFrom nm l k ∧ placeFrom nm l k < k + l.length)
 | [], _ => .inl rfl
 | q :: t, k => by
  rw [placeFrom]
  split
  ·right; simp; omega
  ·rcases placeFrom_range nm t (k + 1) with h | h
   ·exact .inl h
   ·right; simp; omega
theorem place_range (l : List Q) (nm : List UInt8) : place l nm = -1 ∨ (0 ≤ place l nm ∧ place l nm < l.length) := by
 rcases placeFrom_range nm l 0 with h | h
 ·exact .inl h
 ·right; unfold place; simp at h; omega
theorem placeFrom_none {nm : List UInt8} : ∀ {l : List Q} {k : Nat}, (∀ q ∈ l, q.name ≠ nm) → placeFrom nm l k = -1
 | [], _, _ => rfl
 | q :: t, k, h => by
  rw [placeFrom, if_neg (h q (by simp))]
  exact placeFrom_none (fun x hx => h x (by simp [hx]))
theorem okFrom_at {l : List Q} : ∀ (m : List Q) (k : Nat), okFrom l m k = true → ∀ i (h : i < m.length), qOk l (k + i) m[i] = true
 | [], _, _, i, h => by simp at h
 | x :: t, k, ho, i, h => by
  rw [okFrom, Bool.and_eq_true] at ho
  cases i with
  | zero => simpa using ho.1
  | succ j =>
   have := okFrom_at t (k + 1) ho.2 j (by simpa using h)
   rw [show k + 1 + j = k + (j + 1) by omega] at this
   simpa using this
end Go.Proofs.YtbkchepelhkjlaaGreat
