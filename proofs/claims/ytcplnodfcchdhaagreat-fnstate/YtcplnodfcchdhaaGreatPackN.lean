/-
  Several texts of this claim in one: Name, OkA, CountI, OkB (pack.py put them together); each says in its own remark what is proved.
-/
import Derived.Test.YtcplnodfcchdhaaGreatPackL
import Derived.Test.YtcplnodfcchdhaaGreatPackM
import Derived.Test.YtcplnodfcchdhaaGreatStAll
import Derived.Test.YtcplnodfcchdhaaGreatPackK
import Derived.Test.YtcplnodfcchdhaaGreatPackA
import Derived.Shelf.Abstract
/-
  What the program's NameOk answers: as the model's; a walk over the dump.
-/
namespace Go.Proofs.YtcplnodfcchdhaaGreat
open Go.RowKit
set_option maxHeartbeats 800000 in
theorem implNameOk_any (s : ByteArray) (w : World) (hs : s.size ≤ 1048576) :
    Calls Tryz.prog 106 #[.string s] w fun e w' => e = .returned (.bool (nameOk s.data.toList)) ∧ w' = w := by
  by_cases h0 : 1 ≤ s.size
  · by_cases h1 : s.size ≤ 10
    · have hin : Hid (inB (s.data.toList.length : Int) 1 10 = true) := hide (by rw [len_eq]; exact inB_true (by omega) (by omega))
      go_enter Tryz.func106, Tryz.ntmps106
      go_wp2
      go_loop [14] (fun i => ∃ k : Nat, k ≤ s.size ∧ i = .int .i64 k ∧ (s.data.toList.take k).all nameB = true) (fun i => s.size - (intOf i).toNat)
      case atStart => exact ⟨0, Nat.zero_le _, rfl, by simp⟩
      case round =>
        obtain ⟨k, hk, rfl, hall⟩ := hrel
        have HA := hide hall
        clear hall
        by_cases hlt : k < s.size
        · have hb : (s[k].toNat : Int) ≤ 255 := byte_le _
          by_cases h3 : 48 ≤ (s[k].toNat : Int) ∧ (s[k].toNat : Int) ≤ 57
          · have e1 : inB (s[k].toNat : Int) 48 57 = true := inB_true h3.1 h3.2
            clear h3
            go_wp2_with (go_at_call 130; refine (isDigit_any _ _).mono ?_; rintro e w' ⟨rfl, rfl⟩)
            go_round
            case rel => exact ⟨k + 1, by omega, by go_num, all_snoc s k hlt _ (unhide HA) (by simp [nameB, e1])⟩
            case measure => simp [intOf]; omega
          · have e1 : inB (s[k].toNat : Int) 48 57 = false := inB_false h3
            clear h3
            by_cases h4 : 97 ≤ (s[k].toNat : Int)
            · by_cases h5 : (s[k].toNat : Int) ≤ 122
              · have HN : Hid (nameB s[k] = true) := hide (by simp [nameB, e1, inB_true h4 h5])
                go_wp2_with (go_at_call 130; refine (isDigit_any _ _).mono ?_; rintro e w' ⟨rfl, rfl⟩)
                go_round
                case rel => exact ⟨k + 1, by omega, by go_num, all_snoc s k hlt _ (unhide HA) (unhide HN)⟩
                case measure => simp [intOf]; omega
              · have hf : Hid (nameOk s.data.toList = false) := hide (by rw [nameOk, not_all s k hlt nameB (by simp [nameB, e1, inB_false (x := (s[k].toNat : Int)) (a := 97) (b := 122) (by omega)])]; simp)
                go_wp2_with (go_at_call 130; refine (isDigit_any _ _).mono ?_; rintro e w' ⟨rfl, rfl⟩)
                go_ret
                exact ⟨ret_bool (unhide hf).symm, rfl⟩
            · have hf : Hid (nameOk s.data.toList = false) := hide (by rw [nameOk, not_all s k hlt nameB (by simp [nameB, e1, inB_false (x := (s[k].toNat : Int)) (a := 97) (b := 122) (by omega)])]; simp)
              go_wp2_with (go_at_call 130; refine (isDigit_any _ _).mono ?_; rintro e w' ⟨rfl, rfl⟩)
              go_ret
              exact ⟨ret_bool (unhide hf).symm, rfl⟩
        · have hf : Hid (nameOk s.data.toList = true) := hide (by rw [nameOk, unhide hin, ← take_all s k (by omega), unhide HA]; rfl)
          go_wp2
          go_ret
          exact ⟨ret_bool (unhide hf).symm, rfl⟩
    · have hf : Hid (nameOk s.data.toList = false) := hide (by rw [nameOk, len_eq, inB_false (by omega)]; simp)
      go_enter Tryz.func106, Tryz.ntmps106
      go_wp2
      go_ret
      exact ⟨ret_bool (unhide hf).symm, rfl⟩
  · have hf : Hid (nameOk s.data.toList = false) := hide (by rw [nameOk, len_eq, inB_false (by omega)]; simp)
    go_enter Tryz.func106, Tryz.ntmps106
    go_wp2
    go_ret
    exact ⟨ret_bool (unhide hf).symm, rfl⟩
end Go.Proofs.YtcplnodfcchdhaaGreat

/-
  An amount that is something, an ask that is right: by the program and by the model; walks over the dump.
-/
namespace Go.Proofs.YtcplnodfcchdhaaGreat
open Go.RowKit
set_option linter.unusedVariables false
def someR (a b : Int) : Bool := resOk a b && !(decide (a = 0) && decide (b = 0))

set_option maxRecDepth 100000 in
set_option maxHeartbeats 1000000 in
theorem something_any (a b : Int) (w : World) :
    Calls Tryz.prog 108 #[rv a b] w fun e w' => e = .returned (.bool (someR a b)) ∧ Below w.heap.size w w' := by
  have HB0 := hide (below_al (Below.refl _ w) (.cells #[.int .i64 a, .int .i64 b] 33))
  have P0 := hide (blk_new w #[.int .i64 a, .int .i64 b] 33)
  obtain ⟨r, hr⟩ : ∃ r, resOk a b = r := ⟨_, rfl⟩
  have C := hide (fun wx => by have := ok_bel a b wx; rw [hr] at this; exact this)
  have HS := hide (show someR a b = (r && !(decide (a = 0) && decide (b = 0))) by rw [someR, hr])
  obtain ⟨o, ho⟩ : ∃ o, someR a b = o := ⟨_, rfl⟩
  rw [ho] at HS ⊢
  clear hr ho
  go_enter Tryz.func108, Tryz.ntmps108
  go_wp2_with fail
  refine (unhide C _).mono ?_
  rintro e w1 ⟨rfl, hb⟩
  have HB1 := hide (below_on (unhide HB0) hb)
  have P1 := (unhide P0).below hb
  have p0 := P1.at 0
  have p1 := P1.at 1
  simp at p0 p1
  clear hb P1 P0 HB0 C
  cases r with
  | false =>
    go_wp2
    go_ret
    exact ⟨ret_bool (by rw [unhide HS]; simp), unhide HB1⟩
  | true =>
    by_cases ha : a = 0
    · by_cases hbz : b = 0
      · subst ha hbz
        go_wp2
        go_ret
        exact ⟨ret_bool (by rw [unhide HS]; simp), unhide HB1⟩
      · subst ha
        go_wp2
        go_ret
        exact ⟨ret_bool (by rw [unhide HS]; simp [hbz]), unhide HB1⟩
    · go_wp2
      go_ret
      exact ⟨ret_bool (by rw [unhide HS]; simp [ha]), unhide HB1⟩
theorem specOk_bel (a b : Int) (w : World) :
    Calls Tryz.prog 100 #[rv a b] w fun e w' => e = .returned (.bool (resOk a b)) ∧ Below w.heap.size w w' :=
  (specResOk_any a b w).mono fun e w' h => ⟨h.1, by rw [h.2]; exact below_al (Below.refl _ _) _⟩

set_option maxRecDepth 100000 in
set_option maxHeartbeats 1000000 in
theorem l04Some_any (a b : Int) (w : World) :
    Calls Tryz.prog 69 #[rv a b] w fun e w' => e = .returned (.bool (someR a b)) ∧ Below w.heap.size w w' := by
  have HB0 := hide (below_al (Below.refl _ w) (.cells #[.int .i64 a, .int .i64 b] 33))
  have P0 := hide (blk_new w #[.int .i64 a, .int .i64 b] 33)
  obtain ⟨r, hr⟩ : ∃ r, resOk a b = r := ⟨_, rfl⟩
  have C := hide (fun wx => by have := specOk_bel a b wx; rw [hr] at this; exact this)
  have HS := hide (show someR a b = (r && !(decide (a = 0) && decide (b = 0))) by rw [someR, hr])
  obtain ⟨o, ho⟩ : ∃ o, someR a b = o := ⟨_, rfl⟩
  rw [ho] at HS ⊢
  clear hr ho
  go_enter Tryz.func69, Tryz.ntmps69
  go_wp2_with fail
  refine (unhide C _).mono ?_
  rintro e w1 ⟨rfl, hb⟩
  have HB1 := hide (below_on (unhide HB0) hb)
  have P1 := (unhide P0).below hb
  have p0 := P1.at 0
  have p1 := P1.at 1
  simp at p0 p1
  clear hb P1 P0 HB0 C
  cases r with
  | false =>
    go_wp2
    go_ret
    exact ⟨ret_bool (by rw [unhide HS]; simp), unhide HB1⟩
  | true =>
    by_cases ha : a = 0
    · by_cases hbz : b = 0
      · subst ha hbz
        go_wp2
        go_ret
        exact ⟨ret_bool (by rw [unhide HS]; simp), unhide HB1⟩
      · subst ha
        go_wp2
        go_ret
        exact ⟨ret_bool (by rw [unhide HS]; simp [hbz]), unhide HB1⟩
    · go_wp2
      go_ret
      exact ⟨ret_bool (by rw [unhide HS]; simp [ha]), unhide HB1⟩

def askOk (q : Ask) : Bool := someR q.mem q.cpu && (inB q.count 1 1000 && ((decide (q.node = []) || nameOk q.node) && inB q.missed 0 1000))

set_option maxRecDepth 100000 in
set_option maxHeartbeats 2000000 in
theorem askOk_any (q : Ask) (w : World) (hn : q.node.length ≤ 1048576) :
    Calls Tryz.prog 129 #[askv q] w fun e w' => e = .returned (.bool (askOk q)) ∧ Below w.heap.size w w' := by
  obtain ⟨x0, x1, ct, nd, ms⟩ := q
  simp only at hn
  have HB0 := hide (below_al (Below.refl _ w) (.cells #[.int .i64 x0, .int .i64 x1, .int .i64 ct, .string (bs nd), .int .i64 ms] 96))
  have P0 := hide (blk_new w #[.int .i64 x0, .int .i64 x1, .int .i64 ct, .string (bs nd), .int .i64 ms] 96)
  obtain ⟨sm, hsm⟩ : ∃ r, someR x0 x1 = r := ⟨_, rfl⟩
  obtain ⟨nk, hnk⟩ : ∃ r, nameOk nd = r := ⟨_, rfl⟩
  have C := hide (fun wx => by have := something_any x0 x1 wx; rw [hsm] at this; exact this)
  have CN := hide (fun wx => by have := implNameOk_any (bs nd) wx (by rw [bs_size]; exact hn); rw [show nameOk (bs nd).data.toList = nk by rw [← hnk]; simp [bs]] at this; exact this)
  have HS := hide (show askOk ⟨x0, x1, ct, nd, ms⟩ = (sm && (inB ct 1 1000 && ((decide (nd = []) || nk) && inB ms 0 1000))) by rw [askOk]; simp only [hsm, hnk])
  obtain ⟨o, ho⟩ : ∃ o, askOk ⟨x0, x1, ct, nd, ms⟩ = o := ⟨_, rfl⟩
  have hbz := bs_empty nd
  rw [ho] at HS ⊢
  clear hsm hnk ho hn
  go_enter Tryz.func129, Tryz.ntmps129
  go_wp2_with fail
  refine (unhide C _).mono ?_
  rintro e w1 ⟨rfl, hb⟩
  have HB1 := hide (below_on (unhide HB0) hb)
  have P1 := (unhide P0).below hb
  have p2 := P1.at 2
  have p3 := P1.at 3
  have p4 := P1.at 4
  simp at p2 p3 p4
  clear hb P1 P0 HB0 C
  cases sm with
  | false =>
    go_wp2
    go_ret
    exact ⟨ret_bool (by rw [unhide HS]; simp), unhide HB1⟩
  | true =>
  by_cases h1 : 1 ≤ ct
  case neg =>
    go_wp2
    go_ret
    exact ⟨ret_bool (by rw [unhide HS, inB_false (by omega)]; simp), unhide HB1⟩
  by_cases h2 : ct ≤ 1000
  case neg =>
    go_wp2
    go_ret
    exact ⟨ret_bool (by rw [unhide HS, inB_false (by omega)]; simp), unhide HB1⟩
  by_cases hz : nd = []
  · rw [decide_eq_true hz] at hbz HS
    clear hz
    by_cases m1 : 0 ≤ ms
    case neg =>
      go_wp2
      go_ret
      exact ⟨ret_bool (by rw [unhide HS, inB_true h1 h2, inB_false (by omega)]; simp), unhide HB1⟩
    by_cases m2 : ms ≤ 1000
    case neg =>
      go_wp2
      go_ret
      exact ⟨ret_bool (by rw [unhide HS, inB_true h1 h2, inB_false (x := ms) (by omega)]; simp; omega), unhide HB1⟩
    go_wp2
    go_ret
    exact ⟨ret_bool (by rw [unhide HS, inB_true h1 h2, inB_true m1 m2]; simp), unhide HB1⟩
  · rw [decide_eq_false hz] at hbz HS
    clear hz
    go_wp2_with fail
    refine (unhide CN _).mono ?_
    rintro e w2 ⟨rfl, rfl⟩
    clear CN
    cases nk with
    | false =>
      go_wp2
      go_ret
      exact ⟨ret_bool (by rw [unhide HS]; simp), unhide HB1⟩
    | true =>
    by_cases m1 : 0 ≤ ms
    case neg =>
      go_wp2
      go_ret
      exact ⟨ret_bool (by rw [unhide HS, inB_true h1 h2, inB_false (by omega)]; simp), unhide HB1⟩
    by_cases m2 : ms ≤ 1000
    case neg =>
      go_wp2
      go_ret
      exact ⟨ret_bool (by rw [unhide HS, inB_true h1 h2, inB_false (by omega)]; simp; omega), unhide HB1⟩
    go_wp2
    go_ret
    exact ⟨ret_bool (by rw [unhide HS, inB_true h1 h2, inB_true m1 m2]; simp), unhide HB1⟩

set_option maxRecDepth 100000 in
set_option maxHeartbeats 2000000 in
theorem l04Ask_any (q : Ask) (w : World) (hn : q.node.length ≤ 1048576) :
    Calls Tryz.prog 111 #[askv q] w fun e w' => e = .returned (.bool (askOk q)) ∧ Below w.heap.size w w' := by
  obtain ⟨x0, x1, ct, nd, ms⟩ := q
  simp only at hn
  have HB0 := hide (below_al (Below.refl _ w) (.cells #[.int .i64 x0, .int .i64 x1, .int .i64 ct, .string (bs nd), .int .i64 ms] 96))
  have P0 := hide (blk_new w #[.int .i64 x0, .int .i64 x1, .int .i64 ct, .string (bs nd), .int .i64 ms] 96)
  obtain ⟨sm, hsm⟩ : ∃ r, someR x0 x1 = r := ⟨_, rfl⟩
  obtain ⟨nk, hnk⟩ : ∃ r, nameOk nd = r := ⟨_, rfl⟩
  obtain ⟨ic, hic⟩ : ∃ r, inB ct 1 1000 = r := ⟨_, rfl⟩
  obtain ⟨im, him⟩ : ∃ r, inB ms 0 1000 = r := ⟨_, rfl⟩
  have C := hide (fun wx => by have := l04Some_any x0 x1 wx; rw [hsm] at this; exact this)
  have CN := hide (fun wx => by have := specNameOk_any (bs nd) wx (by rw [bs_size]; exact hn); rw [show nameOk (bs nd).data.toList = nk by rw [← hnk]; simp [bs]] at this; exact this)
  have CC := hide (fun wx => by have := l01In_any ct 1 1000 wx; rw [hic] at this; exact this)
  have CD := hide (fun wx => by have := l01In_any ms 0 1000 wx; rw [him] at this; exact this)
  have HS := hide (show askOk ⟨x0, x1, ct, nd, ms⟩ = (sm && (ic && ((decide (nd = []) || nk) && im))) by rw [askOk]; simp only [hsm, hnk, hic, him])
  obtain ⟨o, ho⟩ : ∃ o, askOk ⟨x0, x1, ct, nd, ms⟩ = o := ⟨_, rfl⟩
  have hbz := bs_empty nd
  rw [ho] at HS ⊢
  clear hsm hnk ho hn hic him
  go_enter Tryz.func111, Tryz.ntmps111
  go_wp2_with fail
  refine (unhide C _).mono ?_
  rintro e w1 ⟨rfl, hb⟩
  have HB1 := hide (below_on (unhide HB0) hb)
  have P1 := (unhide P0).below hb
  have p2 := P1.at 2
  have p3 := P1.at 3
  have p4 := P1.at 4
  simp at p2 p3 p4
  clear hb P1 P0 HB0 C
  cases sm with
  | false =>
    go_wp2
    go_ret
    exact ⟨ret_bool (by rw [unhide HS]; simp), unhide HB1⟩
  | true =>
  go_wp2_with fail
  refine (unhide CC _).mono ?_
  rintro e w2 ⟨rfl, rfl⟩
  clear CC
  cases ic with
  | false =>
    go_wp2
    go_ret
    exact ⟨ret_bool (by rw [unhide HS]; simp), unhide HB1⟩
  | true =>
  by_cases hz : nd = []
  · rw [decide_eq_true hz] at hbz HS
    clear hz CN
    go_wp2_with fail
    refine (unhide CD _).mono ?_
    rintro e w3 ⟨rfl, rfl⟩
    clear CD
    go_wp2
    go_ret
    exact ⟨ret_bool (by rw [unhide HS]; simp), unhide HB1⟩
  · rw [decide_eq_false hz] at hbz HS
    clear hz
    go_wp2_with fail
    refine (unhide CN _).mono ?_
    rintro e w3 ⟨rfl, rfl⟩
    clear CN
    cases nk with
    | false =>
      go_wp2
      go_ret
      exact ⟨ret_bool (by rw [unhide HS]; simp), unhide HB1⟩
    | true =>
    go_wp2_with fail
    refine (unhide CD _).mono ?_
    rintro e w4 ⟨rfl, rfl⟩
    clear CD
    go_wp2
    go_ret
    exact ⟨ret_bool (by rw [unhide HS]; simp), unhide HB1⟩
end Go.Proofs.YtcplnodfcchdhaaGreat

/-
  Whether a number counts, by the program; a walk over the dump.
-/
namespace Go.Proofs.YtcplnodfcchdhaaGreat
open Go.RowKit
set_option linter.unusedVariables false
set_option maxHeartbeats 400000 in
theorem countOk_any (n : Int) (w : World) :
    Calls Tryz.prog 103 #[.int .i64 n] w fun e w' => e = .returned (.bool (inB n 1 1000000000)) ∧ w = w' := by
  by_cases h1 : 1 ≤ n
  · by_cases h2 : n ≤ 1000000000
    · go_enter Tryz.func103, Tryz.ntmps103
      go_wp2
      go_ret
      exact ⟨ret_bool (inB_true h1 h2).symm, rfl⟩
    · go_enter Tryz.func103, Tryz.ntmps103
      go_wp2
      go_ret
      exact ⟨ret_bool (inB_false (by omega)).symm, rfl⟩
  · go_enter Tryz.func103, Tryz.ntmps103
    go_wp2
    go_ret
    exact ⟨ret_bool (inB_false (by omega)).symm, rfl⟩
end Go.Proofs.YtcplnodfcchdhaaGreat

/-
  Asks that are right, an application's; the numbers of a state: by the program; walks over the dump.
-/
namespace Go.Proofs.YtcplnodfcchdhaaGreat
open Go.RowKit
set_option linter.unusedVariables false
def idxK (p : Ask → Bool) : List Ask → Nat → Int
  | [], _ => -1
  | q :: t, k => if p q = true then (k : Int) else idxK p t (k + 1)
theorem idxK_step {p : Ask → Bool} {l : List Ask} {k : Nat} (h : k < l.length) : idxK p (l.drop k) k = if p l[k] = true then (k : Int) else idxK p (l.drop (k + 1)) (k + 1) := by
  rw [List.drop_eq_getElem_cons h, idxK]
theorem idxK_end {p : Ask → Bool} {l : List Ask} {k : Nat} (h : l.length ≤ k) : idxK p (l.drop k) k = -1 := by
  rw [List.drop_of_length_le h]; rfl
theorem idxK_has (p : Ask → Bool) : ∀ (l : List Ask) (k : Nat), decide (0 ≤ idxK p l k) = l.any p
  | [], _ => by simp [idxK]
  | q :: t, k => by
    rw [idxK, List.any_cons]
    by_cases h : p q = true
    · rw [if_pos h, h]; simp
    · rw [if_neg h, idxK_has p t (k + 1)]; simp [h]

set_option maxRecDepth 100000 in
set_option maxHeartbeats 2000000 in
theorem indexFuncK_any (g : Nat) (lb : Array Value) (eg : ∀ args w, (callFunc g args).run Tryz.prog w = .ok (.enter g args) w) (p : Ask → Bool) (ao : Option Addr) (len cap : Nat) (l : List Ask) (w : World) (h : AskRow w ao len l) (hl : len ≤ 1048576)
    (hp : ∀ wx (q : Ask), q ∈ l → Below w.heap.size w wx → Calls Tryz.prog g (#[askv q] ++ lb) wx fun e w' => e = .returned (.bool (p q)) ∧ Below wx.heap.size wx w') :
    Calls Tryz.prog 135 #[.slice ao len cap, .func (.func g) #[] lb] w fun e w' => e = .returned (.int .i64 (idxK p l 0)) ∧ Below w.heap.size w w' := by
  have HR := hide h
  have HL := hide h.1
  have HP := hide hp
  clear h hp
  go_enter Tryz.func135, Tryz.ntmps135
  go_wp2
  go_loopw [5, 8] (fun _ i wr => ∃ k : Nat, k ≤ len ∧ i = .int .i64 k ∧ Hid (idxK p l 0 = idxK p (l.drop k) k) ∧ Hid (Below w.heap.size w wr)) (fun _ i _ => len - (intOf i).toNat)
  case atStart => exact ⟨0, Nat.zero_le _, rfl, hide (by simp), hide (Below.refl _ _)⟩
  case round =>
    obtain ⟨k, hk, rfl, hq, HB⟩ := hrel
    by_cases hlt : k < len
    · obtain ⟨b, off, rfl, hx⟩ := ((unhide HR).below (unhide HB)).at hlt
      have hkl : k < l.length := by have := unhide HL; omega
      have hst := hide (idxK_step (p := p) (l := l) (k := k) hkl)
      obtain ⟨c0, c1, c2, c3, c4⟩ := hx hkl
      clear hx
      have HC := hide (unhide HP wr l[k] (List.getElem_mem _) (unhide HB))
      obtain ⟨⟨y0, y1, y2, nd, y4⟩, hs⟩ : ∃ s, l[k] = s := ⟨_, rfl⟩
      rw [hs] at c0 c1 c2 c3 c4 hst HC
      simp only at c0 c1 c2 c3 c4
      clear hs hkl HP
      cases hpq : p ⟨y0, y1, y2, nd, y4⟩ with
      | true =>
        rw [hpq] at HC
        have HQ := hide hpq
        clear hpq
        go_wp2_with (go_at_fn g; refine (unhide HC).mono ?_; rintro e w' ⟨rfl, hb⟩)
        go_ret
        exact ⟨ret_int (by rw [unhide hq, unhide hst, if_pos (unhide HQ)]), below_on (unhide HB) hb⟩
      | false =>
        rw [hpq] at HC
        have HQ := hide hpq
        clear hpq
        go_wp2_with (go_at_fn g; refine (unhide HC).mono ?_; rintro e w' ⟨rfl, hb⟩)
        go_roundw
        case rel => exact ⟨k + 1, by omega, by go_num, hide (by rw [unhide hq, unhide hst, if_neg (by rw [unhide HQ]; simp)]), hide (below_on (unhide HB) hb)⟩
        case measure => simp [intOf]; omega
    · go_wp2
      go_ret
      exact ⟨ret_int (by rw [unhide hq, idxK_end (by have := unhide HL; omega)]), unhide HB⟩

set_option maxRecDepth 100000 in
set_option maxHeartbeats 1000000 in
theorem containsFuncK_any (g : Nat) (lb : Array Value) (eg : ∀ args w, (callFunc g args).run Tryz.prog w = .ok (.enter g args) w) (p : Ask → Bool) (ao : Option Addr) (len cap : Nat) (l : List Ask) (w : World) (h : AskRow w ao len l) (hl : len ≤ 1048576)
    (hp : ∀ wx (q : Ask), q ∈ l → Below w.heap.size w wx → Calls Tryz.prog g (#[askv q] ++ lb) wx fun e w' => e = .returned (.bool (p q)) ∧ Below wx.heap.size wx w') :
    Calls Tryz.prog 127 #[.slice ao len cap, .func (.func g) #[] lb] w fun e w' => e = .returned (.bool (l.any p)) ∧ Below w.heap.size w w' := by
  have C := hide (indexFuncK_any g lb eg p ao len cap l w h hl hp)
  have HS := hide (idxK_has p l 0)
  obtain ⟨i, hi⟩ : ∃ i, idxK p l 0 = i := ⟨_, rfl⟩
  obtain ⟨b, hb⟩ : ∃ b, l.any p = b := ⟨_, rfl⟩
  rw [hi] at C HS
  rw [hb] at HS ⊢
  clear h hp hi hb
  go_enter Tryz.func127, Tryz.ntmps127
  go_wp2_with fail
  refine (unhide C).mono ?_
  rintro e w1 ⟨rfl, hb⟩
  have HB := hide hb
  clear hb
  by_cases h0 : 0 ≤ i
  · go_wp2
    go_ret
    exact ⟨ret_bool (by first | exact unhide HS | (rw [← unhide HS]; simp [h0])), unhide HB⟩
  · go_wp2
    go_ret
    exact ⟨ret_bool (by first | exact unhide HS | (rw [← unhide HS]; simp [h0])), unhide HB⟩

set_option maxRecDepth 100000 in
set_option maxHeartbeats 1000000 in
theorem askNot_any (q : Ask) (w : World) (hn : q.node.length ≤ 1048576) :
    Calls Tryz.prog 128 #[askv q] w fun e w' => e = .returned (.bool (!askOk q)) ∧ Below w.heap.size w w' := by
  have C := hide (askOk_any q (w.alloc (.cells #[.int .i64 q.mem, .int .i64 q.cpu, .int .i64 q.count, .string (bs q.node), .int .i64 q.missed] 96)) hn)
  obtain ⟨o, ho⟩ : ∃ o, askOk q = o := ⟨_, rfl⟩
  rw [ho] at C ⊢
  obtain ⟨y0, y1, y2, nd, y4⟩ := q
  clear ho
  go_enter Tryz.func128, Tryz.ntmps128
  go_wp2_with fail
  refine (unhide C).mono ?_
  rintro e w1 ⟨rfl, hb⟩
  have HB := hide (below_on (below_al (Below.refl _ w) _) hb)
  clear hb C
  cases o
  · go_wp2
    go_ret
    exact ⟨rfl, unhide HB⟩
  · go_wp2
    go_ret
    exact ⟨rfl, unhide HB⟩

def asksOk (l : List Ask) : Bool := decide (l.length ≤ 10) && l.all askOk
set_option maxRecDepth 100000 in
set_option maxHeartbeats 1000000 in
theorem asksOk_any (id : Int) (qu : List UInt8) (ao : Option Addr) (len cap : Nat) (l : List Ask) (w : World) (h : AskRow w ao len l) (hl : len ≤ 1048576) (hn : ∀ q ∈ l, q.node.length ≤ 1048576) :
    Calls Tryz.prog 105 #[applv id qu ao len cap] w fun e w' => e = .returned (.bool (asksOk l)) ∧ Below w.heap.size w w' := by
  have hb0 := below_al (Below.refl _ w) (.cells #[.int .i64 id, .string (bs qu), .slice ao len cap] 41)
  have C := hide (containsFuncK_any 128 #[] (enters_of Tryz.func128 (by kernel_rfl) rfl) (fun q => !askOk q) ao len cap l _ (h.below hb0) hl (fun wx q hq _ => askNot_any q wx (hn q hq)))
  have HS := hide (show asksOk l = (decide (len ≤ 10) && !(l.any fun q => !askOk q)) by rw [asksOk, ← h.1]; congr 1; rw [List.not_any_eq_all_not]; simp)
  obtain ⟨o, ho⟩ : ∃ o, asksOk l = o := ⟨_, rfl⟩
  obtain ⟨b, hb⟩ : ∃ o, (l.any fun q => !askOk q) = o := ⟨_, rfl⟩
  rw [ho] at HS ⊢
  rw [hb] at HS C
  have HB0 := hide hb0
  clear ho hb h hn hb0
  by_cases h10 : len ≤ 10
  · have hi : (len : Int) ≤ 10 := by omega
    rw [decide_eq_true h10] at HS
    clear h10
    go_enter Tryz.func105, Tryz.ntmps105
    go_wp2_with fail
    refine (unhide C).mono ?_
    rintro e w1 ⟨rfl, hb⟩
    have HB := hide (below_on (unhide HB0) hb)
    clear hb C HB0
    go_wp2
    go_ret
    exact ⟨ret_bool (by rw [unhide HS]; simp), unhide HB⟩
  · have hi : ¬ (len : Int) ≤ 10 := by omega
    rw [decide_eq_false h10] at HS
    clear h10 C
    go_enter Tryz.func105, Tryz.ntmps105
    go_wp2
    go_ret
    exact ⟨ret_bool (by rw [unhide HS]; simp), unhide HB0⟩

def numsOk (s : St) : Bool := inB s.clock 0 1000000000 && (inB s.epoch 1 1000000000 && (inB s.next 1 1000000000 && inB s.serial 1 1000000000))
set_option maxRecDepth 100000 in
set_option maxHeartbeats 1000000 in
theorem numbersOk_any (x : Sls) (s : St) (w : World) :
    Calls Tryz.prog 61 #[sv x s] w fun e w' => e = .returned (.bool (numsOk s)) ∧ Below w.heap.size w w' := by
  obtain ⟨qa, ql, qc, aa, al, ac, ma, ml, mc, ca, cl, cc⟩ := x
  obtain ⟨qs, clock, epoch, next, serial, apps, ms, cs⟩ := s
  have HB0 := hide (below_al (Below.refl _ w) (.cells (svc ⟨qa, ql, qc, aa, al, ac, ma, ml, mc, ca, cl, cc⟩ ⟨qs, clock, epoch, next, serial, apps, ms, cs⟩) 29))
  simp only [numsOk]
  obtain ⟨b0, h0⟩ : ∃ b, inB clock 0 1000000000 = b := ⟨_, rfl⟩
  obtain ⟨b1, h1⟩ : ∃ b, inB epoch 1 1000000000 = b := ⟨_, rfl⟩
  obtain ⟨b2, h2⟩ : ∃ b, inB next 1 1000000000 = b := ⟨_, rfl⟩
  obtain ⟨b3, h3⟩ : ∃ b, inB serial 1 1000000000 = b := ⟨_, rfl⟩
  have C0 := hide (fun wx => by have := numberOk_any clock wx; rw [h0] at this; exact this)
  have C1 := hide (fun wx => by have := countOk_any epoch wx; rw [h1] at this; exact this)
  have C2 := hide (fun wx => by have := countOk_any next wx; rw [h2] at this; exact this)
  have C3 := hide (fun wx => by have := countOk_any serial wx; rw [h3] at this; exact this)
  rw [h0, h1, h2, h3]
  clear h0 h1 h2 h3
  go_enter Tryz.func61, Tryz.ntmps61
  go_wp2_with fail
  refine (unhide C0 _).mono ?_
  rintro e w1 ⟨rfl, rfl⟩
  cases b0 with
  | false =>
    go_wp2
    go_ret
    exact ⟨rfl, unhide HB0⟩
  | true =>
  go_wp2_with fail
  refine (unhide C1 _).mono ?_
  rintro e w1 ⟨rfl, rfl⟩
  cases b1 with
  | false =>
    go_wp2
    go_ret
    exact ⟨rfl, unhide HB0⟩
  | true =>
  go_wp2_with fail
  refine (unhide C2 _).mono ?_
  rintro e w1 ⟨rfl, rfl⟩
  cases b2 with
  | false =>
    go_wp2
    go_ret
    exact ⟨rfl, unhide HB0⟩
  | true =>
  go_wp2_with fail
  refine (unhide C3 _).mono ?_
  rintro e w1 ⟨rfl, rfl⟩
  go_wp2
  go_ret
  exact ⟨ret_bool (by simp), unhide HB0⟩
end Go.Proofs.YtcplnodfcchdhaaGreat
