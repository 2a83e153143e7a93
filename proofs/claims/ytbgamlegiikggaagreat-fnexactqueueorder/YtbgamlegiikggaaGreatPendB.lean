/-
  Whether an application of a queue has an ask: Pending, by the program and by the model; walks over the dump.
-/
import Derived.Test.YtbgamlegiikggaaGreatStAll
import Derived.Test.YtbgamlegiikggaaGreatPackC
import Derived.Shelf.Abstract
namespace Go.Proofs.YtbgamlegiikggaaGreat
open Go.RowKit
set_option linter.unusedVariables false

def idxA (p : Appl → Bool) : List Appl → Nat → Int
  | [], _ => -1
  | q :: t, k => if p q = true then (k : Int) else idxA p t (k + 1)
theorem idxA_step {p : Appl → Bool} {l : List Appl} {k : Nat} (h : k < l.length) : idxA p (l.drop k) k = if p l[k] = true then (k : Int) else idxA p (l.drop (k + 1)) (k + 1) := by
  rw [List.drop_eq_getElem_cons h, idxA]
theorem idxA_end {p : Appl → Bool} {l : List Appl} {k : Nat} (h : l.length ≤ k) : idxA p (l.drop k) k = -1 := by
  rw [List.drop_of_length_le h]; rfl
theorem idxA_has (p : Appl → Bool) : ∀ (l : List Appl) (k : Nat), decide (0 ≤ idxA p l k) = l.any p
  | [], _ => by simp [idxA]
  | q :: t, k => by
    rw [idxA, List.any_cons]
    by_cases h : p q = true
    · rw [if_pos h, h]; simp
    · rw [if_neg h, idxA_has p t (k + 1)]; simp [h]

set_option maxRecDepth 100000 in
set_option maxHeartbeats 2000000 in
theorem indexFuncA_any (g : Nat) (lb : Array Value) (eg : ∀ args w, (callFunc g args).run Tryz.prog w = .ok (.enter g args) w) (p : Appl → Bool) (ao : Option Addr) (len cap : Nat) (l : List Appl) (w : World) (h : ApplRow w ao len l) (hl : len ≤ 1048576)
    (hp : ∀ wx (q : Appl) xo xl xc, Below w.heap.size w wx → xl = q.asks.length → Calls Tryz.prog g (#[applv q.id q.queue xo xl xc] ++ lb) wx fun e w' => e = .returned (.bool (p q)) ∧ Below wx.heap.size wx w') :
    Calls Tryz.prog 123 #[.slice ao len cap, .func (.func g) #[] lb] w fun e w' => e = .returned (.int .i64 (idxA p l 0)) ∧ Below w.heap.size w w' := by
  have HR := hide h
  have HL := hide h.1
  have HP := hide hp
  clear h hp
  go_enter Tryz.func123, Tryz.ntmps123
  go_wp2
  go_loopw [5, 8] (fun _ i wr => ∃ k : Nat, k ≤ len ∧ i = .int .i64 k ∧ Hid (idxA p l 0 = idxA p (l.drop k) k) ∧ Hid (Below w.heap.size w wr)) (fun _ i _ => len - (intOf i).toNat)
  case atStart => exact ⟨0, Nat.zero_le _, rfl, hide (by simp), hide (Below.refl _ _)⟩
  case round =>
    obtain ⟨k, hk, rfl, hq, HB⟩ := hrel
    by_cases hlt : k < len
    · obtain ⟨b, off, rfl, hx⟩ := ((unhide HR).below (unhide HB)).at hlt
      have hkl : k < l.length := by have := unhide HL; omega
      have hst := hide (idxA_step (p := p) (l := l) (k := k) hkl)
      obtain ⟨xo, xl, xc, c0, c1, c2, hrow, _⟩ := hx hkl
      clear hx
      obtain ⟨⟨id, qu, asks⟩, hs⟩ : ∃ s, l[k] = s := ⟨_, rfl⟩
      rw [hs] at c0 c1 hst hrow
      simp only at c0 c1
      have HC := hide (unhide HP wr ⟨id, qu, asks⟩ xo xl xc (unhide HB) hrow.1)
      clear hs hkl HP hrow
      cases hpq : p ⟨id, qu, asks⟩ with
      | true =>
        rw [hpq] at HC
        have HQ := hide hpq
        clear hpq
        go_wp2_with (go_at_fn g; refine (unhide HC).mono ?_; rintro e w' ⟨rfl, hb⟩)
        go_ret
        exact ⟨ret_int (by rw [unhide hq, unhide hst, if_pos (unhide HQ)]), below_on (unhide HB) hb⟩
      | false =>
        rw [hpq] at HC
        have HQ := hide hpq
        clear hpq
        go_wp2_with (go_at_fn g; refine (unhide HC).mono ?_; rintro e w' ⟨rfl, hb⟩)
        go_roundw
        case rel => exact ⟨k + 1, by omega, by go_num, hide (by rw [unhide hq, unhide hst, if_neg (by rw [unhide HQ]; simp)]), hide (below_on (unhide HB) hb)⟩
        case measure => simp [intOf]; omega
    · go_wp2
      go_ret
      exact ⟨ret_int (by rw [unhide hq, idxA_end (by have := unhide HL; omega)]), unhide HB⟩

set_option maxRecDepth 100000 in
set_option maxHeartbeats 1000000 in
theorem containsFuncA_any (g : Nat) (lb : Array Value) (eg : ∀ args w, (callFunc g args).run Tryz.prog w = .ok (.enter g args) w) (p : Appl → Bool) (ao : Option Addr) (len cap : Nat) (l : List Appl) (w : World) (h : ApplRow w ao len l) (hl : len ≤ 1048576)
    (hp : ∀ wx (q : Appl) xo xl xc, Below w.heap.size w wx → xl = q.asks.length → Calls Tryz.prog g (#[applv q.id q.queue xo xl xc] ++ lb) wx fun e w' => e = .returned (.bool (p q)) ∧ Below wx.heap.size wx w') :
    Calls Tryz.prog 89 #[.slice ao len cap, .func (.func g) #[] lb] w fun e w' => e = .returned (.bool (l.any p)) ∧ Below w.heap.size w w' := by
  have C := hide (indexFuncA_any g lb eg p ao len cap l w h hl hp)
  have HS := hide (idxA_has p l 0)
  obtain ⟨i, hi⟩ : ∃ i, idxA p l 0 = i := ⟨_, rfl⟩
  obtain ⟨b, hb⟩ : ∃ b, l.any p = b := ⟨_, rfl⟩
  rw [hi] at C HS
  rw [hb] at HS ⊢
  clear h hp hi hb
  go_enter Tryz.func89, Tryz.ntmps89
  go_wp2_with fail
  refine (unhide C).mono ?_
  rintro e w1 ⟨rfl, hb⟩
  have HB := hide hb
  clear hb
  by_cases h0 : 0 ≤ i
  · go_wp2
    go_ret
    exact ⟨ret_bool (by first | exact unhide HS | (rw [← unhide HS]; simp [h0])), unhide HB⟩
  · go_wp2
    go_ret
    exact ⟨ret_bool (by first | exact unhide HS | (rw [← unhide HS]; simp [h0])), unhide HB⟩

def pends (nm : List UInt8) (q : Appl) : Bool := decide (q.queue = nm) && decide (0 < q.asks.length)
def pendingV (s : St) (nm : List UInt8) : Bool := s.apps.any (pends nm)

set_option maxRecDepth 100000 in
set_option maxHeartbeats 1000000 in
theorem pendFn_any (B : Nat) (nm : List UInt8) (id : Int) (qu : List UInt8) (xo : Option Addr) (xl xc : Nat) (w : World) (hc : w.cell? ⟨B, 0, none⟩ = some (.string (bs nm))) :
    Calls Tryz.prog 90 #[applv id qu xo xl xc, .pointer (some ⟨B, 0, none⟩)] w fun e w' => e = .returned (.bool (decide (qu = nm) && decide (0 < xl))) ∧ Below w.heap.size w w' := by
  have hlt := cell_lt hc
  have hc2 : (w.alloc (.cells #[.int .i64 id, .string (bs qu), .slice xo xl xc] 106)).cell? ⟨B, 0, none⟩ = some (.string (bs nm)) := by rw [World.cell?_alloc_lt _ _ ⟨B, 0, none⟩ hlt]; exact hc
  have hbe := bs_eq qu nm
  clear hc hlt
  by_cases h1 : qu = nm
  · rw [decide_eq_true h1] at hbe ⊢
    by_cases h2 : 0 < xl
    · have h3 : (0 : Int) < xl := by omega
      rw [decide_eq_true h2]
      clear h1 h2
      go_enter Tryz.func90, Tryz.ntmps90
      go_wp2
      go_ret
      exact ⟨ret_bool (by simp; omega), below_al (Below.refl _ _) _⟩
    · have h3 : ¬ (0 : Int) < xl := by omega
      rw [decide_eq_false h2]
      clear h1 h2
      go_enter Tryz.func90, Tryz.ntmps90
      go_wp2
      go_ret
      exact ⟨ret_bool (by simp; omega), below_al (Below.refl _ _) _⟩
  · rw [decide_eq_false h1] at hbe ⊢
    rw [Bool.false_and]
    clear h1
    go_enter Tryz.func90, Tryz.ntmps90
    go_wp2
    go_ret
    exact ⟨rfl, below_al (Below.refl _ _) _⟩

def pendW (w : World) (c : Array Value) (nm : List UInt8) : World := (w.alloc (.cells c 36)).alloc (.cells #[.string (bs nm)] 9)
theorem pendW_below (w : World) (c : Array Value) (nm : List UInt8) : Below w.heap.size w (pendW w c nm) := below_al (below_al (Below.refl _ w) _) _
theorem pendW_cell (w : World) (c : Array Value) (nm : List UInt8) : (pendW w c nm).cell? ⟨w.heap.size + 1, 0, none⟩ = some (.string (bs nm)) := by
  have := (blk_new (w.alloc (.cells c 36)) #[.string (bs nm)] 9).at 0
  rw [al_size] at this
  exact this

set_option maxRecDepth 100000 in
set_option maxHeartbeats 2000000 in
theorem implPending_any (x : Sls) (s : St) (nm : List UInt8) (w : World) (h : SRow w x s) (hf : FitSt s) :
    Calls Tryz.prog 49 #[sv x s, .string (bs nm)] w fun e w' => e = .returned (.bool (pendingV s nm)) ∧ Below w.heap.size w w' := by
  have hmf : ∀ (fn : Fn) (first cap : Array Value) (w : World), (Instr.makeFunc fn first cap).run Tryz.prog w = .ok (.func fn first cap) w := fun _ _ _ _ => rfl
  have hal : x.al ≤ 1048576 := by have := h.len.2.1; have := hf.2.1.1; omega
  have CU := hide (containsFuncA_any 90 #[.pointer (some ⟨w.heap.size + 1, 0, none⟩)] (enters_of Tryz.func90 (by kernel_rfl) rfl) (pends nm) x.aa x.al x.ac s.apps (pendW w (svc x s) nm) (h.2.1.below (pendW_below w _ nm)) hal
      (fun wy q xo xl xc hy hx => by
        have := pendFn_any (w.heap.size + 1) nm q.id q.queue xo xl xc wy ((hy.cell (p := ⟨w.heap.size + 1, 0, none⟩) (cell_lt (pendW_cell w _ nm))).trans (pendW_cell w _ nm))
        rw [hx] at this ⊢
        exact this))
  obtain ⟨o, ho⟩ : ∃ o, pendingV s nm = o := ⟨_, rfl⟩
  rw [show s.apps.any (pends nm) = o from ho] at CU
  rw [ho]
  clear ho h hf
  obtain ⟨qa, ql, qc, aa, al, ac, ma, ml, mc, ca, cl, cc⟩ := x
  obtain ⟨qs, clock, epoch, next, serial, apps, ms, cs⟩ := s
  go_enter Tryz.func49, Tryz.ntmps49
  go_wp2_with fail
  refine (unhide CU).mono ?_
  rintro e w1 ⟨rfl, hb⟩
  have HB1 := hide (below_on (pendW_below w _ nm) hb)
  clear hb CU
  go_wp2
  go_ret
  exact ⟨rfl, unhide HB1⟩

theorem any_drop {p : Appl → Bool} {l : List Appl} {k : Nat} (h : k < l.length) : (l.drop k).any p = (p l[k] || (l.drop (k + 1)).any p) := by
  rw [List.drop_eq_getElem_cons h, List.any_cons]

set_option maxRecDepth 100000 in
set_option maxHeartbeats 2000000 in
theorem specPending_any (x : Sls) (s : St) (nm : List UInt8) (w : World) (h : SRow w x s) (hf : FitSt s) :
    Calls Tryz.prog 44 #[sv x s, .string (bs nm)] w fun e w' => e = .returned (.bool (pendingV s nm)) ∧ Below w.heap.size w w' := by
  have hal : x.al ≤ 1048576 := by have := h.len.2.1; have := hf.2.1.1; omega
  have HR := hide h.2.1
  have HL := hide h.len.2.1
  have HB0 := hide (below_al (Below.refl _ w) (.cells (svc x s) 36))
  have P0 := hide (blk_new w (svc x s) 36)
  obtain ⟨o, ho⟩ : ∃ o, pendingV s nm = o := ⟨_, rfl⟩
  have HO := hide (show (s.apps.drop 0).any (pends nm) = o from ho)
  rw [ho]
  clear ho h hf
  obtain ⟨qa, ql, qc, aa, al, ac, ma, ml, mc, ca, cl, cc⟩ := x
  obtain ⟨qs, clock, epoch, next, serial, apps, ms, cs⟩ := s
  simp only at hal HR HL HO
  go_enter Tryz.func44, Tryz.ntmps44
  go_wp2
  go_loopw [5] (fun i wr => ∃ (k : Nat), k ≤ al ∧ i = .int .i64 k ∧ Hid ((apps.drop k).any (pends nm) = o) ∧ Hid (Blk wr w.heap.size (svc ⟨qa, ql, qc, aa, al, ac, ma, ml, mc, ca, cl, cc⟩ ⟨qs, clock, epoch, next, serial, apps, ms, cs⟩) 36) ∧ Hid (Below w.heap.size w wr)) (fun i _ => al - (intOf i).toNat)
  case atStart => exact ⟨0, Nat.zero_le _, rfl, HO, P0, HB0⟩
  case round =>
    obtain ⟨k, hk, rfl, HQ, HP, HB⟩ := hrel
    have p5 := (unhide HP).at 5
    simp at p5
    by_cases hlt : k < al
    · obtain ⟨b, off, rfl, hx⟩ := ((unhide HR).below (unhide HB)).at hlt
      have hkl : k < apps.length := by have := unhide HL; omega
      have hst := any_drop (p := pends nm) hkl
      obtain ⟨xo, xl, xc, c0, c1, c2, hrow, _⟩ := hx hkl
      clear hx
      obtain ⟨⟨id, qu, asks⟩, hs⟩ : ∃ s, apps[k] = s := ⟨_, rfl⟩
      rw [hs] at c0 c1 hst hrow
      simp only at c0 c1
      have hbe := bs_eq qu nm
      have hpd : pends nm ⟨id, qu, asks⟩ = (decide (qu = nm) && decide (0 < xl)) := by simp [pends, hrow.1]
      rw [hpd] at hst
      rw [unhide HQ] at hst
      clear hs hkl hrow hpd
      by_cases h1 : qu = nm
      · rw [decide_eq_true h1] at hbe hst
        by_cases h2 : 0 < xl
        · have h3 : (0 : Int) < xl := by omega
          have hot : o = true := by rw [hst, decide_eq_true h2]; simp
          subst hot
          clear h1 h2 hst
          go_wp2
          go_ret
          exact ⟨rfl, unhide HB⟩
        · have h3 : ¬ (0 : Int) < xl := by omega
          rw [decide_eq_false h2] at hst
          have HN := hide (show (apps.drop (k + 1)).any (pends nm) = o by simpa using hst.symm)
          clear h1 h2 hst
          go_wp2
          go_roundw
          case rel => exact ⟨k + 1, by omega, by go_num, HN, HP, HB⟩
          case measure => simp [intOf]; omega
      · rw [decide_eq_false h1] at hbe hst
        have HN := hide (show (apps.drop (k + 1)).any (pends nm) = o by simpa using hst.symm)
        clear h1 hst
        go_wp2
        go_roundw
        case rel => exact ⟨k + 1, by omega, by go_num, HN, HP, HB⟩
        case measure => simp [intOf]; omega
    · have hof : o = false := by rw [← unhide HQ, List.drop_of_length_le (by have := unhide HL; omega)]; rfl
      subst hof
      go_wp2
      go_ret
      exact ⟨rfl, unhide HB⟩
end Go.Proofs.YtbgamlegiikggaaGreat
