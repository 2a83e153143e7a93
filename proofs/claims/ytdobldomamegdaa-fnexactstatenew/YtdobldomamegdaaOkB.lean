/-
  Asks that are right, an application's; the numbers of a state: by the program; walks over the dump.
-/
import Derived.Test.YtdobldomamegdaaOkA
import Derived.Shelf.Abstract
namespace Go.Proofs.Ytdobldomamegdaa
open Go.RowKit
set_option linter.unusedVariables false

def idxK (p : Ask → Bool) : List Ask → Nat → Int
  | [], _ => -1
  | q :: t, k => if p q = true then (k : Int) else idxK p t (k + 1)
theorem idxK_step {p : Ask → Bool} {l : List Ask} {k : Nat} (h : k < l.length) : idxK p (l.drop k) k = if p l[k] = true then (k : Int) else idxK p (l.drop (k + 1)) (k + 1) := by
  rw [List.drop_eq_getElem_cons h, idxK]
theorem idxK_end {p : Ask → Bool} {l : List Ask} {k : Nat} (h : l.length ≤ k) : idxK p (l.drop k) k = -1 := by
  rw [List.drop_of_length_le h]; rfl
theorem idxK_has (p : Ask → Bool) : ∀ (l : List Ask) (k : Nat), decide (0 ≤ idxK p l k) = l.any p
  | [], _ => by simp [idxK]
  | q :: t, k => by
    rw [idxK, List.any_cons]
    by_cases h : p q = true
    · rw [if_pos h, h]; simp
    · rw [if_neg h, idxK_has p t (k + 1)]; simp [h]

set_option maxRecDepth 100000 in
set_option maxHeartbeats 2000000 in
theorem indexFuncK_any (g : Nat) (lb : Array Value) (eg : ∀ args w, (callFunc g args).run Try.prog w = .ok (.enter g args) w) (p : Ask → Bool) (ao : Option Addr) (len cap : Nat) (l : List Ask) (w : World) (h : AskRow w ao len l) (hl : len ≤ 1048576)
    (hp : ∀ wx (q : Ask), q ∈ l → Below w.heap.size w wx → Calls Try.prog g (#[askv q] ++ lb) wx fun e w' => e = .returned (.bool (p q)) ∧ Below wx.heap.size wx w') :
    Calls Try.prog 98 #[.slice ao len cap, .func (.func g) #[] lb] w fun e w' => e = .returned (.int .i64 (idxK p l 0)) ∧ Below w.heap.size w w' := by
  have HR := hide h
  have HL := hide h.1
  have HP := hide hp
  clear h hp
  go_enter Try.func98, Try.ntmps98
  go_wp2
  go_loopw [5, 8] (fun _ i wr => ∃ k : Nat, k ≤ len ∧ i = .int .i64 k ∧ Hid (idxK p l 0 = idxK p (l.drop k) k) ∧ Hid (Below w.heap.size w wr)) (fun _ i _ => len - (intOf i).toNat)
  case atStart => exact ⟨0, Nat.zero_le _, rfl, hide (by simp), hide (Below.refl _ _)⟩
  case round =>
    obtain ⟨k, hk, rfl, hq, HB⟩ := hrel
    by_cases hlt : k < len
    · obtain ⟨b, off, rfl, hx⟩ := ((unhide HR).below (unhide HB)).at hlt
      have hkl : k < l.length := by have := unhide HL; omega
      have hst := hide (idxK_step (p := p) (l := l) (k := k) hkl)
      obtain ⟨c0, c1, c2, c3, c4⟩ := hx hkl
      clear hx
      have HC := hide (unhide HP wr l[k] (List.getElem_mem _) (unhide HB))
      obtain ⟨⟨y0, y1, y2, nd, y4⟩, hs⟩ : ∃ s, l[k] = s := ⟨_, rfl⟩
      rw [hs] at c0 c1 c2 c3 c4 hst HC
      simp only at c0 c1 c2 c3 c4
      clear hs hkl HP
      cases hpq : p ⟨y0, y1, y2, nd, y4⟩ with
      | true =>
        rw [hpq] at HC
        have HQ := hide hpq
        clear hpq
        go_wp2_with (go_at_fn g; refine (unhide HC).mono ?_; rintro e w' ⟨rfl, hb⟩)
        go_ret
        exact ⟨ret_int (by rw [unhide hq, unhide hst, if_pos (unhide HQ)]), below_on (unhide HB) hb⟩
      | false =>
        rw [hpq] at HC
        have HQ := hide hpq
        clear hpq
        go_wp2_with (go_at_fn g; refine (unhide HC).mono ?_; rintro e w' ⟨rfl, hb⟩)
        go_roundw
        case rel => exact ⟨k + 1, by omega, by go_num, hide (by rw [unhide hq, unhide hst, if_neg (by rw [unhide HQ]; simp)]), hide (below_on (unhide HB) hb)⟩
        case measure => simp [intOf]; omega
    · go_wp2
      go_ret
      exact ⟨ret_int (by rw [unhide hq, idxK_end (by have := unhide HL; omega)]), unhide HB⟩

set_option maxRecDepth 100000 in
set_option maxHeartbeats 1000000 in
theorem containsFuncK_any (g : Nat) (lb : Array Value) (eg : ∀ args w, (callFunc g args).run Try.prog w = .ok (.enter g args) w) (p : Ask → Bool) (ao : Option Addr) (len cap : Nat) (l : List Ask) (w : World) (h : AskRow w ao len l) (hl : len ≤ 1048576)
    (hp : ∀ wx (q : Ask), q ∈ l → Below w.heap.size w wx → Calls Try.prog g (#[askv q] ++ lb) wx fun e w' => e = .returned (.bool (p q)) ∧ Below wx.heap.size wx w') :
    Calls Try.prog 81 #[.slice ao len cap, .func (.func g) #[] lb] w fun e w' => e = .returned (.bool (l.any p)) ∧ Below w.heap.size w w' := by
  have C := hide (indexFuncK_any g lb eg p ao len cap l w h hl hp)
  have HS := hide (idxK_has p l 0)
  obtain ⟨i, hi⟩ : ∃ i, idxK p l 0 = i := ⟨_, rfl⟩
  obtain ⟨b, hb⟩ : ∃ b, l.any p = b := ⟨_, rfl⟩
  rw [hi] at C HS
  rw [hb] at HS ⊢
  clear h hp hi hb
  go_enter Try.func81, Try.ntmps81
  go_wp2_with fail
  refine (unhide C).mono ?_
  rintro e w1 ⟨rfl, hb⟩
  have HB := hide hb
  clear hb
  by_cases h0 : 0 ≤ i
  · go_wp2
    go_ret
    exact ⟨ret_bool (by first | exact unhide HS | (rw [← unhide HS]; simp [h0])), unhide HB⟩
  · go_wp2
    go_ret
    exact ⟨ret_bool (by first | exact unhide HS | (rw [← unhide HS]; simp [h0])), unhide HB⟩

set_option maxRecDepth 100000 in
set_option maxHeartbeats 1000000 in
theorem askNot_any (q : Ask) (w : World) (hn : q.node.length ≤ 1048576) :
    Calls Try.prog 82 #[askv q] w fun e w' => e = .returned (.bool (!askOk q)) ∧ Below w.heap.size w w' := by
  have C := hide (askOk_any q (w.alloc (.cells #[.int .i64 q.mem, .int .i64 q.cpu, .int .i64 q.count, .string (bs q.node), .int .i64 q.missed] 78)) hn)
  obtain ⟨o, ho⟩ : ∃ o, askOk q = o := ⟨_, rfl⟩
  rw [ho] at C ⊢
  obtain ⟨y0, y1, y2, nd, y4⟩ := q
  clear ho
  go_enter Try.func82, Try.ntmps82
  go_wp2_with fail
  refine (unhide C).mono ?_
  rintro e w1 ⟨rfl, hb⟩
  have HB := hide (below_on (below_al (Below.refl _ w) _) hb)
  clear hb C
  cases o
  · go_wp2
    go_ret
    exact ⟨rfl, unhide HB⟩
  · go_wp2
    go_ret
    exact ⟨rfl, unhide HB⟩

def asksOk (l : List Ask) : Bool := decide (l.length ≤ 10) && l.all askOk
set_option maxRecDepth 100000 in
set_option maxHeartbeats 1000000 in
theorem asksOk_any (id : Int) (qu : List UInt8) (ao : Option Addr) (len cap : Nat) (l : List Ask) (w : World) (h : AskRow w ao len l) (hl : len ≤ 1048576) (hn : ∀ q ∈ l, q.node.length ≤ 1048576) :
    Calls Try.prog 63 #[applv id qu ao len cap] w fun e w' => e = .returned (.bool (asksOk l)) ∧ Below w.heap.size w w' := by
  have hb0 := below_al (Below.refl _ w) (.cells #[.int .i64 id, .string (bs qu), .slice ao len cap] 66)
  have C := hide (containsFuncK_any 82 #[] (enters_of Try.func82 (by kernel_rfl) rfl) (fun q => !askOk q) ao len cap l _ (h.below hb0) hl (fun wx q hq _ => askNot_any q wx (hn q hq)))
  have HS := hide (show asksOk l = (decide (len ≤ 10) && !(l.any fun q => !askOk q)) by rw [asksOk, ← h.1]; congr 1; rw [List.not_any_eq_all_not]; simp)
  obtain ⟨o, ho⟩ : ∃ o, asksOk l = o := ⟨_, rfl⟩
  obtain ⟨b, hb⟩ : ∃ o, (l.any fun q => !askOk q) = o := ⟨_, rfl⟩
  rw [ho] at HS ⊢
  rw [hb] at HS C
  have HB0 := hide hb0
  clear ho hb h hn hb0
  by_cases h10 : len ≤ 10
  · have hi : (len : Int) ≤ 10 := by omega
    rw [decide_eq_true h10] at HS
    clear h10
    go_enter Try.func63, Try.ntmps63
    go_wp2_with fail
    refine (unhide C).mono ?_
    rintro e w1 ⟨rfl, hb⟩
    have HB := hide (below_on (unhide HB0) hb)
    clear hb C HB0
    go_wp2
    go_ret
    exact ⟨ret_bool (by rw [unhide HS]; simp), unhide HB⟩
  · have hi : ¬ (len : Int) ≤ 10 := by omega
    rw [decide_eq_false h10] at HS
    clear h10 C
    go_enter Try.func63, Try.ntmps63
    go_wp2
    go_ret
    exact ⟨ret_bool (by rw [unhide HS]; simp), unhide HB0⟩

set_option maxHeartbeats 400000 in
theorem countOk_any (n : Int) (w : World) :
    Calls Try.prog 61 #[.int .i64 n] w fun e w' => e = .returned (.bool (inB n 1 1000000000)) ∧ w = w' := by
  by_cases h1 : 1 ≤ n
  · by_cases h2 : n ≤ 1000000000
    · go_enter Try.func61, Try.ntmps61
      go_wp2
      go_ret
      exact ⟨ret_bool (inB_true h1 h2).symm, rfl⟩
    · go_enter Try.func61, Try.ntmps61
      go_wp2
      go_ret
      exact ⟨ret_bool (inB_false (by omega)).symm, rfl⟩
  · go_enter Try.func61, Try.ntmps61
    go_wp2
    go_ret
    exact ⟨ret_bool (inB_false (by omega)).symm, rfl⟩

def numsOk (s : St) : Bool := inB s.clock 0 1000000000 && (inB s.epoch 1 1000000000 && (inB s.next 1 1000000000 && inB s.serial 1 1000000000))
set_option maxRecDepth 100000 in
set_option maxHeartbeats 1000000 in
theorem numbersOk_any (x : Sls) (s : St) (w : World) :
    Calls Try.prog 38 #[sv x s] w fun e w' => e = .returned (.bool (numsOk s)) ∧ Below w.heap.size w w' := by
  obtain ⟨qa, ql, qc, aa, al, ac, ma, ml, mc, ca, cl, cc⟩ := x
  obtain ⟨qs, clock, epoch, next, serial, apps, ms, cs⟩ := s
  have HB0 := hide (below_al (Below.refl _ w) (.cells (svc ⟨qa, ql, qc, aa, al, ac, ma, ml, mc, ca, cl, cc⟩ ⟨qs, clock, epoch, next, serial, apps, ms, cs⟩) 29))
  simp only [numsOk]
  obtain ⟨b0, h0⟩ : ∃ b, inB clock 0 1000000000 = b := ⟨_, rfl⟩
  obtain ⟨b1, h1⟩ : ∃ b, inB epoch 1 1000000000 = b := ⟨_, rfl⟩
  obtain ⟨b2, h2⟩ : ∃ b, inB next 1 1000000000 = b := ⟨_, rfl⟩
  obtain ⟨b3, h3⟩ : ∃ b, inB serial 1 1000000000 = b := ⟨_, rfl⟩
  have C0 := hide (fun wx => by have := numberOk_any clock wx; rw [h0] at this; exact this)
  have C1 := hide (fun wx => by have := countOk_any epoch wx; rw [h1] at this; exact this)
  have C2 := hide (fun wx => by have := countOk_any next wx; rw [h2] at this; exact this)
  have C3 := hide (fun wx => by have := countOk_any serial wx; rw [h3] at this; exact this)
  rw [h0, h1, h2, h3]
  clear h0 h1 h2 h3
  go_enter Try.func38, Try.ntmps38
  go_wp2_with fail
  refine (unhide C0 _).mono ?_
  rintro e w1 ⟨rfl, rfl⟩
  cases b0 with
  | false =>
    go_wp2
    go_ret
    exact ⟨rfl, unhide HB0⟩
  | true =>
  go_wp2_with fail
  refine (unhide C1 _).mono ?_
  rintro e w1 ⟨rfl, rfl⟩
  cases b1 with
  | false =>
    go_wp2
    go_ret
    exact ⟨rfl, unhide HB0⟩
  | true =>
  go_wp2_with fail
  refine (unhide C2 _).mono ?_
  rintro e w1 ⟨rfl, rfl⟩
  cases b2 with
  | false =>
    go_wp2
    go_ret
    exact ⟨rfl, unhide HB0⟩
  | true =>
  go_wp2_with fail
  refine (unhide C3 _).mono ?_
  rintro e w1 ⟨rfl, rfl⟩
  go_wp2
  go_ret
  exact ⟨ret_bool (by simp), unhide HB0⟩
end Go.Proofs.Ytdobldomamegdaa
