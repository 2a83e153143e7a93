/-
  Several texts of this claim in one: PendB, StW, Code (pack.py put them together); each says in its own remark what is proved.
-/
import Derived.Test.YtcplnodfcchdhaaGreatStAll
import Derived.Test.YtcplnodfcchdhaaGreatPackG
import Derived.Shelf.Abstract
import Derived.Test.YtcplnodfcchdhaaGreatPackAB
import Derived.Test.YtcplnodfcchdhaaGreatPackAD
import Derived.Test.YtcplnodfcchdhaaGreatPackAE
import Derived.Test.YtcplnodfcchdhaaGreatPackX
import Derived.Test.YtcplnodfcchdhaaGreatPackAF
import Derived.Test.YtcplnodfcchdhaaGreatPackY
import Derived.Test.YtcplnodfcchdhaaGreatUByI
import Derived.Test.YtcplnodfcchdhaaGreatPackAG
import Derived.Test.YtcplnodfcchdhaaGreatPackAJ
import Derived.Test.YtcplnodfcchdhaaGreatPackAK
import Derived.Test.YtcplnodfcchdhaaGreatPackO
import Derived.Test.YtcplnodfcchdhaaGreatPackR
import Derived.Test.YtcplnodfcchdhaaGreatPackJ
import Derived.OpenShut
import Derived.Lib.ItoaMem
/-
  Whether an application of a queue has an ask: Pending, by the program and by the model; walks over the dump.
-/
namespace Go.Proofs.YtcplnodfcchdhaaGreat
open Go.RowKit
set_option linter.unusedVariables false
def idxA (p : Appl → Bool) : List Appl → Nat → Int
  | [], _ => -1
  | q :: t, k => if p q = true then (k : Int) else idxA p t (k + 1)
theorem idxA_step {p : Appl → Bool} {l : List Appl} {k : Nat} (h : k < l.length) : idxA p (l.drop k) k = if p l[k] = true then (k : Int) else idxA p (l.drop (k + 1)) (k + 1) := by
  rw [List.drop_eq_getElem_cons h, idxA]
theorem idxA_end {p : Appl → Bool} {l : List Appl} {k : Nat} (h : l.length ≤ k) : idxA p (l.drop k) k = -1 := by
  rw [List.drop_of_length_le h]; rfl
theorem idxA_has (p : Appl → Bool) : ∀ (l : List Appl) (k : Nat), decide (0 ≤ idxA p l k) = l.any p
  | [], _ => by simp [idxA]
  | q :: t, k => by
    rw [idxA, List.any_cons]
    by_cases h : p q = true
    · rw [if_pos h, h]; simp
    · rw [if_neg h, idxA_has p t (k + 1)]; simp [h]

set_option maxRecDepth 100000 in
set_option maxHeartbeats 2000000 in
theorem indexFuncA_any (g : Nat) (lb : Array Value) (eg : ∀ args w, (callFunc g args).run Tryz.prog w = .ok (.enter g args) w) (p : Appl → Bool) (ao : Option Addr) (len cap : Nat) (l : List Appl) (w : World) (h : ApplRow w ao len l) (hl : len ≤ 1048576)
    (hp : ∀ wx (q : Appl) xo xl xc, Below w.heap.size w wx → xl = q.asks.length → Calls Tryz.prog g (#[applv q.id q.queue xo xl xc] ++ lb) wx fun e w' => e = .returned (.bool (p q)) ∧ Below wx.heap.size wx w') :
    Calls Tryz.prog 112 #[.slice ao len cap, .func (.func g) #[] lb] w fun e w' => e = .returned (.int .i64 (idxA p l 0)) ∧ Below w.heap.size w w' := by
  have HR := hide h
  have HL := hide h.1
  have HP := hide hp
  clear h hp
  go_enter Tryz.func112, Tryz.ntmps112
  go_wp2
  go_loopw [5, 8] (fun _ i wr => ∃ k : Nat, k ≤ len ∧ i = .int .i64 k ∧ Hid (idxA p l 0 = idxA p (l.drop k) k) ∧ Hid (Below w.heap.size w wr)) (fun _ i _ => len - (intOf i).toNat)
  case atStart => exact ⟨0, Nat.zero_le _, rfl, hide (by simp), hide (Below.refl _ _)⟩
  case round =>
    obtain ⟨k, hk, rfl, hq, HB⟩ := hrel
    by_cases hlt : k < len
    · obtain ⟨b, off, rfl, hx⟩ := ((unhide HR).below (unhide HB)).at hlt
      have hkl : k < l.length := by have := unhide HL; omega
      have hst := hide (idxA_step (p := p) (l := l) (k := k) hkl)
      obtain ⟨xo, xl, xc, c0, c1, c2, hrow, _⟩ := hx hkl
      clear hx
      obtain ⟨⟨id, qu, asks⟩, hs⟩ : ∃ s, l[k] = s := ⟨_, rfl⟩
      rw [hs] at c0 c1 hst hrow
      simp only at c0 c1
      have HC := hide (unhide HP wr ⟨id, qu, asks⟩ xo xl xc (unhide HB) hrow.1)
      clear hs hkl HP hrow
      cases hpq : p ⟨id, qu, asks⟩ with
      | true =>
        rw [hpq] at HC
        have HQ := hide hpq
        clear hpq
        go_wp2_with (go_at_fn g; refine (unhide HC).mono ?_; rintro e w' ⟨rfl, hb⟩)
        go_ret
        exact ⟨ret_int (by rw [unhide hq, unhide hst, if_pos (unhide HQ)]), below_on (unhide HB) hb⟩
      | false =>
        rw [hpq] at HC
        have HQ := hide hpq
        clear hpq
        go_wp2_with (go_at_fn g; refine (unhide HC).mono ?_; rintro e w' ⟨rfl, hb⟩)
        go_roundw
        case rel => exact ⟨k + 1, by omega, by go_num, hide (by rw [unhide hq, unhide hst, if_neg (by rw [unhide HQ]; simp)]), hide (below_on (unhide HB) hb)⟩
        case measure => simp [intOf]; omega
    · go_wp2
      go_ret
      exact ⟨ret_int (by rw [unhide hq, idxA_end (by have := unhide HL; omega)]), unhide HB⟩

set_option maxRecDepth 100000 in
set_option maxHeartbeats 1000000 in
theorem containsFuncA_any (g : Nat) (lb : Array Value) (eg : ∀ args w, (callFunc g args).run Tryz.prog w = .ok (.enter g args) w) (p : Appl → Bool) (ao : Option Addr) (len cap : Nat) (l : List Appl) (w : World) (h : ApplRow w ao len l) (hl : len ≤ 1048576)
    (hp : ∀ wx (q : Appl) xo xl xc, Below w.heap.size w wx → xl = q.asks.length → Calls Tryz.prog g (#[applv q.id q.queue xo xl xc] ++ lb) wx fun e w' => e = .returned (.bool (p q)) ∧ Below wx.heap.size wx w') :
    Calls Tryz.prog 72 #[.slice ao len cap, .func (.func g) #[] lb] w fun e w' => e = .returned (.bool (l.any p)) ∧ Below w.heap.size w w' := by
  have C := hide (indexFuncA_any g lb eg p ao len cap l w h hl hp)
  have HS := hide (idxA_has p l 0)
  obtain ⟨i, hi⟩ : ∃ i, idxA p l 0 = i := ⟨_, rfl⟩
  obtain ⟨b, hb⟩ : ∃ b, l.any p = b := ⟨_, rfl⟩
  rw [hi] at C HS
  rw [hb] at HS ⊢
  clear h hp hi hb
  go_enter Tryz.func72, Tryz.ntmps72
  go_wp2_with fail
  refine (unhide C).mono ?_
  rintro e w1 ⟨rfl, hb⟩
  have HB := hide hb
  clear hb
  by_cases h0 : 0 ≤ i
  · go_wp2
    go_ret
    exact ⟨ret_bool (by first | exact unhide HS | (rw [← unhide HS]; simp [h0])), unhide HB⟩
  · go_wp2
    go_ret
    exact ⟨ret_bool (by first | exact unhide HS | (rw [← unhide HS]; simp [h0])), unhide HB⟩

def pends (nm : List UInt8) (q : Appl) : Bool := decide (q.queue = nm) && decide (0 < q.asks.length)
def pendingV (s : St) (nm : List UInt8) : Bool := s.apps.any (pends nm)

set_option maxRecDepth 100000 in
set_option maxHeartbeats 1000000 in
theorem pendFn_any (B : Nat) (nm : List UInt8) (id : Int) (qu : List UInt8) (xo : Option Addr) (xl xc : Nat) (w : World) (hc : w.cell? ⟨B, 0, none⟩ = some (.string (bs nm))) :
    Calls Tryz.prog 73 #[applv id qu xo xl xc, .pointer (some ⟨B, 0, none⟩)] w fun e w' => e = .returned (.bool (decide (qu = nm) && decide (0 < xl))) ∧ Below w.heap.size w w' := by
  have hlt := cell_lt hc
  have hc2 : (w.alloc (.cells #[.int .i64 id, .string (bs qu), .slice xo xl xc] 41)).cell? ⟨B, 0, none⟩ = some (.string (bs nm)) := by rw [World.cell?_alloc_lt _ _ ⟨B, 0, none⟩ hlt]; exact hc
  have hbe := bs_eq qu nm
  clear hc hlt
  by_cases h1 : qu = nm
  · rw [decide_eq_true h1] at hbe ⊢
    by_cases h2 : 0 < xl
    · have h3 : (0 : Int) < xl := by omega
      rw [decide_eq_true h2]
      clear h1 h2
      go_enter Tryz.func73, Tryz.ntmps73
      go_wp2
      go_ret
      exact ⟨ret_bool (by simp; omega), below_al (Below.refl _ _) _⟩
    · have h3 : ¬ (0 : Int) < xl := by omega
      rw [decide_eq_false h2]
      clear h1 h2
      go_enter Tryz.func73, Tryz.ntmps73
      go_wp2
      go_ret
      exact ⟨ret_bool (by simp; omega), below_al (Below.refl _ _) _⟩
  · rw [decide_eq_false h1] at hbe ⊢
    rw [Bool.false_and]
    clear h1
    go_enter Tryz.func73, Tryz.ntmps73
    go_wp2
    go_ret
    exact ⟨rfl, below_al (Below.refl _ _) _⟩

def pendW (w : World) (c : Array Value) (nm : List UInt8) : World := (w.alloc (.cells c 29)).alloc (.cells #[.string (bs nm)] 9)
theorem pendW_below (w : World) (c : Array Value) (nm : List UInt8) : Below w.heap.size w (pendW w c nm) := below_al (below_al (Below.refl _ w) _) _
theorem pendW_cell (w : World) (c : Array Value) (nm : List UInt8) : (pendW w c nm).cell? ⟨w.heap.size + 1, 0, none⟩ = some (.string (bs nm)) := by
  have := (blk_new (w.alloc (.cells c 29)) #[.string (bs nm)] 9).at 0
  rw [al_size] at this
  exact this

set_option maxRecDepth 100000 in
set_option maxHeartbeats 2000000 in
theorem implPending_any (x : Sls) (s : St) (nm : List UInt8) (w : World) (h : SRow w x s) (hf : FitSt s) :
    Calls Tryz.prog 27 #[sv x s, .string (bs nm)] w fun e w' => e = .returned (.bool (pendingV s nm)) ∧ Below w.heap.size w w' := by
  have hmf : ∀ (fn : Fn) (first cap : Array Value) (w : World), (Instr.makeFunc fn first cap).run Tryz.prog w = .ok (.func fn first cap) w := fun _ _ _ _ => rfl
  have hal : x.al ≤ 1048576 := by have := h.len.2.1; have := hf.2.1.1; omega
  have CU := hide (containsFuncA_any 73 #[.pointer (some ⟨w.heap.size + 1, 0, none⟩)] (enters_of Tryz.func73 (by kernel_rfl) rfl) (pends nm) x.aa x.al x.ac s.apps (pendW w (svc x s) nm) (h.2.1.below (pendW_below w _ nm)) hal
      (fun wy q xo xl xc hy hx => by
        have := pendFn_any (w.heap.size + 1) nm q.id q.queue xo xl xc wy ((hy.cell (p := ⟨w.heap.size + 1, 0, none⟩) (cell_lt (pendW_cell w _ nm))).trans (pendW_cell w _ nm))
        rw [hx] at this ⊢
        exact this))
  obtain ⟨o, ho⟩ : ∃ o, pendingV s nm = o := ⟨_, rfl⟩
  rw [show s.apps.any (pends nm) = o from ho] at CU
  rw [ho]
  clear ho h hf
  obtain ⟨qa, ql, qc, aa, al, ac, ma, ml, mc, ca, cl, cc⟩ := x
  obtain ⟨qs, clock, epoch, next, serial, apps, ms, cs⟩ := s
  go_enter Tryz.func27, Tryz.ntmps27
  go_wp2_with fail
  refine (unhide CU).mono ?_
  rintro e w1 ⟨rfl, hb⟩
  have HB1 := hide (below_on (pendW_below w _ nm) hb)
  clear hb CU
  go_wp2
  go_ret
  exact ⟨rfl, unhide HB1⟩

theorem any_drop {p : Appl → Bool} {l : List Appl} {k : Nat} (h : k < l.length) : (l.drop k).any p = (p l[k] || (l.drop (k + 1)).any p) := by
  rw [List.drop_eq_getElem_cons h, List.any_cons]

set_option maxRecDepth 100000 in
set_option maxHeartbeats 2000000 in
theorem specPending_any (x : Sls) (s : St) (nm : List UInt8) (w : World) (h : SRow w x s) (hf : FitSt s) :
    Calls Tryz.prog 28 #[sv x s, .string (bs nm)] w fun e w' => e = .returned (.bool (pendingV s nm)) ∧ Below w.heap.size w w' := by
  have hal : x.al ≤ 1048576 := by have := h.len.2.1; have := hf.2.1.1; omega
  have HR := hide h.2.1
  have HL := hide h.len.2.1
  have HB0 := hide (below_al (Below.refl _ w) (.cells (svc x s) 29))
  have P0 := hide (blk_new w (svc x s) 29)
  obtain ⟨o, ho⟩ : ∃ o, pendingV s nm = o := ⟨_, rfl⟩
  have HO := hide (show (s.apps.drop 0).any (pends nm) = o from ho)
  rw [ho]
  clear ho h hf
  obtain ⟨qa, ql, qc, aa, al, ac, ma, ml, mc, ca, cl, cc⟩ := x
  obtain ⟨qs, clock, epoch, next, serial, apps, ms, cs⟩ := s
  simp only at hal HR HL HO
  go_enter Tryz.func28, Tryz.ntmps28
  go_wp2
  go_loopw [5] (fun i wr => ∃ (k : Nat), k ≤ al ∧ i = .int .i64 k ∧ Hid ((apps.drop k).any (pends nm) = o) ∧ Hid (Blk wr w.heap.size (svc ⟨qa, ql, qc, aa, al, ac, ma, ml, mc, ca, cl, cc⟩ ⟨qs, clock, epoch, next, serial, apps, ms, cs⟩) 29) ∧ Hid (Below w.heap.size w wr)) (fun i _ => al - (intOf i).toNat)
  case atStart => exact ⟨0, Nat.zero_le _, rfl, HO, P0, HB0⟩
  case round =>
    obtain ⟨k, hk, rfl, HQ, HP, HB⟩ := hrel
    have p5 := (unhide HP).at 5
    simp at p5
    by_cases hlt : k < al
    · obtain ⟨b, off, rfl, hx⟩ := ((unhide HR).below (unhide HB)).at hlt
      have hkl : k < apps.length := by have := unhide HL; omega
      have hst := any_drop (p := pends nm) hkl
      obtain ⟨xo, xl, xc, c0, c1, c2, hrow, _⟩ := hx hkl
      clear hx
      obtain ⟨⟨id, qu, asks⟩, hs⟩ : ∃ s, apps[k] = s := ⟨_, rfl⟩
      rw [hs] at c0 c1 hst hrow
      simp only at c0 c1
      have hbe := bs_eq qu nm
      have hpd : pends nm ⟨id, qu, asks⟩ = (decide (qu = nm) && decide (0 < xl)) := by simp [pends, hrow.1]
      rw [hpd] at hst
      rw [unhide HQ] at hst
      clear hs hkl hrow hpd
      by_cases h1 : qu = nm
      · rw [decide_eq_true h1] at hbe hst
        by_cases h2 : 0 < xl
        · have h3 : (0 : Int) < xl := by omega
          have hot : o = true := by rw [hst, decide_eq_true h2]; simp
          subst hot
          clear h1 h2 hst
          go_wp2
          go_ret
          exact ⟨rfl, unhide HB⟩
        · have h3 : ¬ (0 : Int) < xl := by omega
          rw [decide_eq_false h2] at hst
          have HN := hide (show (apps.drop (k + 1)).any (pends nm) = o by simpa using hst.symm)
          clear h1 h2 hst
          go_wp2
          go_roundw
          case rel => exact ⟨k + 1, by omega, by go_num, HN, HP, HB⟩
          case measure => simp [intOf]; omega
      · rw [decide_eq_false h1] at hbe hst
        have HN := hide (show (apps.drop (k + 1)).any (pends nm) = o by simpa using hst.symm)
        clear h1 hst
        go_wp2
        go_roundw
        case rel => exact ⟨k + 1, by omega, by go_num, HN, HP, HB⟩
        case measure => simp [intOf]; omega
    · have hof : o = false := by rw [← unhide HQ, List.drop_of_length_le (by have := unhide HL; omega)]; rfl
      subst hof
      go_wp2
      go_ret
      exact ⟨rfl, unhide HB⟩
end Go.Proofs.YtcplnodfcchdhaaGreat

/-
  What the law FnState calls, in the form that it wants, of a drawn state.
-/
namespace Go.Proofs.YtcplnodfcchdhaaGreat
open Go.RowKit
set_option linter.unusedVariables false
theorem res_load {w : World} {b : Nat} {x y : Int} (h : Blk w b #[.int .i64 x, .int .i64 y] 33) : (Instr.loadAt 33 (.pointer (some ⟨b, 0, none⟩))).run Tryz.prog w = .ok (rv x y) w := by
  simp only [Instr.loadAt, Instr.sureAddr, Sem.run_bind, Sem.run_pure, Result.andThen]
  exact run_loadVar_row w b 33 33 #[.int .i64 x, .int .i64 y] (0, 0) _ h Tryz.underlying33 rfl (by rw [show (Tryz.prog.info? 33).map (·.size) = some 2 by kernel_rfl]; rfl)
section
variable {w : World} {y : Sls} {s : St} {hs : List AV}
theorem DrU.clen (D : DrU w y s hs) : y.cl ≤ 1048576 := by have h1 := D.row.2.2.2.1; have h2 := D.fit.2.2.2.1; omega
theorem DrU.mlen (D : DrU w y s hs) : y.ml ≤ 1048576 := D.row.ml D.fit
theorem DrU.qlen (D : DrU w y s hs) : y.ql ≤ 1048576 := D.row.ql D.fit
theorem foI (D : DrU w y s hs) {l : List UInt8} (hl : l.length ≤ 1048576) {r : Int × Int} (hr : freeOnV s l = r) : Calls Tryz.prog 6 #[sv y s, .string (bs l)] w fun e w' => e = .returned (rv r.1 r.2) ∧ Below w.heap.size w w' := by
  subst hr; exact implFreeOn_any y s l w D.row D.fit hl
theorem foS (D : DrU w y s hs) {l : List UInt8} {r : Int × Int} (hr : freeOnV s l = r) : Calls Tryz.prog 16 #[sv y s, .string (bs l)] w fun e w' => e = .returned (rv r.1 r.2) ∧ Below w.heap.size w w' := by
  subst hr; exact specFreeOn_any y s l w D.row D.fit
theorem uoI (D : DrU w y s hs) {l : List UInt8} {r : Int × Int} (hr : usedOnV s l = r) : Calls Tryz.prog 7 #[sv y s, .string (bs l)] w fun e w' => e = .returned (rv r.1 r.2) ∧ Below w.heap.size w w' := by
  subst hr; exact implUsedOn_any y s l w D.row.2.2.2 D.clen
theorem uoS (D : DrU w y s hs) {l : List UInt8} {r : Int × Int} (hr : usedOnV s l = r) : Calls Tryz.prog 17 #[sv y s, .string (bs l)] w fun e w' => e = .returned (rv r.1 r.2) ∧ Below w.heap.size w w' := by
  subst hr; exact specUsedOn_any y s l w D.row.2.2.2 D.clen
theorem ubI (D : DrU w y s hs) {l : List UInt8} {r : Int × Int} (hr : usedByV s l = r) : Calls Tryz.prog 18 #[sv y s, .string (bs l)] w fun e w' => e = .returned (rv r.1 r.2) ∧ Below w.heap.size w w' := by
  subst hr; exact implUsedBy_any y s l w D.row D.fit D.cap D.wf
theorem ubS (D : DrU w y s hs) {l : List UInt8} {r : Int × Int} (hr : usedByV s l = r) : Calls Tryz.prog 19 #[sv y s, .string (bs l)] w fun e w' => e = .returned (rv r.1 r.2) ∧ Below w.heap.size w w' := by
  subst hr; exact specUsedBy_any y s l w D.row D.fit
theorem rmI (D : DrU w y s hs) {l : List UInt8} {rx ry : Int} {r : Bool} (hr : roomV s l rx ry = r) : Calls Tryz.prog 20 #[sv y s, .string (bs l), rv rx ry] w fun e w' => e = .returned (.bool r) ∧ Below w.heap.size w w' := by
  subst hr; exact implRoom_any y s l rx ry w D.row D.fit D.cap D.wf
theorem rmS (D : DrU w y s hs) {l : List UInt8} {rx ry : Int} {r : Bool} (hr : roomV s l rx ry = r) : Calls Tryz.prog 21 #[sv y s, .string (bs l), rv rx ry] w fun e w' => e = .returned (.bool r) ∧ Below w.heap.size w w' := by
  subst hr; exact specRoom_any y s l rx ry w D.row D.fit
theorem soI (D : DrU w y s hs) {r : Bool} (hr : stateOkV s = r) : Calls Tryz.prog 23 #[sv y s] w fun e w' => e = .returned (.bool r) ∧ Below w.heap.size w w' := by
  subst hr; exact implStateOk_any y s w D.row D.fit D.cap D.wf
theorem soS (D : DrU w y s hs) {r : Bool} (hr : stateOkV s = r) : Calls Tryz.prog 24 #[sv y s] w fun e w' => e = .returned (.bool r) ∧ Below w.heap.size w w' := by
  subst hr; exact specStateOk_any y s w D.row D.fit
theorem toI (D : DrU w y s hs) {r : Int × Int} (hr : totalV s = r) : Calls Tryz.prog 25 #[sv y s] w fun e w' => e = .returned (rv r.1 r.2) ∧ Below w.heap.size w w' := by
  subst hr; exact implTotal_any y s w D.row.2.2.1 D.mlen
theorem toS (D : DrU w y s hs) {r : Int × Int} (hr : totalV s = r) : Calls Tryz.prog 26 #[sv y s] w fun e w' => e = .returned (rv r.1 r.2) ∧ Below w.heap.size w w' := by
  subst hr; exact specTotal_any y s w D.row.2.2.1 D.mlen
theorem peI (D : DrU w y s hs) {l : List UInt8} {r : Bool} (hr : pendingV s l = r) : Calls Tryz.prog 27 #[sv y s, .string (bs l)] w fun e w' => e = .returned (.bool r) ∧ Below w.heap.size w w' := by
  subst hr; exact implPending_any y s l w D.row D.fit
theorem peS (D : DrU w y s hs) {l : List UInt8} {r : Bool} (hr : pendingV s l = r) : Calls Tryz.prog 28 #[sv y s, .string (bs l)] w fun e w' => e = .returned (.bool r) ∧ Below w.heap.size w w' := by
  subst hr; exact specPending_any y s l w D.row D.fit
theorem leS (D : DrU w y s hs) {l : List UInt8} {r : Bool} (hr : leaf s.qs l = r) : Calls Tryz.prog 31 #[.slice y.qa y.ql y.qc, .string (bs l)] w fun e w' => e = .returned (.bool r) ∧ Below w.heap.size w w' := by
  subst hr; exact specLeaf_any y.qa y.ql y.qc s.qs l w D.row.1 D.qlen (fun q hq => (D.fit.1.2 q hq).1)
/-- an application that is answered: its parts, and whether there is one -/
def apN (s : St) (id : Int) : Nat := (appOfV s id).1.asks.length
theorem apN_le (hf : FitSt s) (id : Int) : apN s id ≤ 1048576 := by
  unfold apN appOfV
  cases h : findAp id s.apps with
  | none => exact Nat.zero_le _
  | some a => exact (hf.2.1.2 a (by unfold findAp at h; exact List.mem_of_find?_eq_some h)).2.1
theorem apI (D : DrU w y s hs) {id : Int} (hi : 0 ≤ id ∧ id ≤ 100000) {a : Appl} {th : Bool} (ha : appOfV s id = (a, th)) {n : Nat} (hn : a.asks.length = n) :
    Calls Tryz.prog 11 #[sv y s, .int .i64 id] w fun e w' => ∃ vo vc, e = .returned (.tuple #[.agg #[.int .i64 a.id, .string (bs a.queue), .slice vo n vc], .bool th]) ∧ Hid (AskRow w' vo n a.asks) ∧ Below w.heap.size w w' := by
  refine (implAppOf_any y s id w D.row D.fit D.wf.1 (wf_small (by omega) (by omega))).mono ?_
  rintro e w' ⟨v, rfl, hx⟩
  rw [ha] at hx ⊢
  obtain ⟨ho, hb⟩ := unhide hx
  obtain ⟨vo, vc, rfl, _, hr, _⟩ := aown_has ho
  simp only at hr
  rw [hn] at hr ⊢
  exact ⟨vo, vc, rfl, hide hr, hb⟩
theorem apS (D : DrU w y s hs) {id : Int} {a : Appl} {th : Bool} (ha : appOfV s id = (a, th)) {n : Nat} (hn : a.asks.length = n) :
    Calls Tryz.prog 12 #[sv y s, .int .i64 id] w fun e w' => ∃ vo vc, e = .returned (.tuple #[.agg #[.int .i64 a.id, .string (bs a.queue), .slice vo n vc], .bool th]) ∧ Hid (AskRow w' vo n a.asks) ∧ Below w.heap.size w w' := by
  refine (specAppOf_dr y s hs id w D.row D.av D.hd D.sm D.fit).mono ?_
  rintro e w' ⟨v, rfl, hx⟩
  rw [ha] at hx ⊢
  obtain ⟨ho, hb⟩ := unhide hx
  obtain ⟨vo, vc, rfl, _, hr, _⟩ := aown_has ho
  simp only at hr
  rw [hn] at hr ⊢
  exact ⟨vo, vc, rfl, hide hr, hb⟩
/-- what is free and what is used on a machine of a right state, and the two together -/
theorem fa_call (h : stateOkV s = true) (hf : FitSt s) {m : Mac} (hm : m ∈ s.ms) : ∃ f1 f2 u1 u2 : Int, (∀ wx, DrU wx y s hs → Calls Tryz.prog 6 #[sv y s, .string (bs m.name)] wx fun e w' => e = .returned (rv f1 f2) ∧ Below wx.heap.size wx w') ∧
    (∀ wx, DrU wx y s hs → Calls Tryz.prog 7 #[sv y s, .string (bs m.name)] wx fun e w' => e = .returned (rv u1 u2) ∧ Below wx.heap.size wx w') ∧
    (∀ wx, Calls Tryz.prog 30 #[rv f1 f2, rv u1 u2] wx fun e w' => e = .returned (.tuple #[rv m.mem m.cpu, .bool true]) ∧ Below wx.heap.size wx w') := by
  obtain ⟨h1, h2, h3⟩ := free_used h hm
  refine ⟨_, _, _, _, fun wx D => foI D (hf.2.2.1.2 m hm) rfl, fun wx D => uoI D rfl, fun wx => ?_⟩
  have := implAdd_any (freeOnV s m.name).1 (freeOnV s m.name).2 (usedOnV s m.name).1 (usedOnV s m.name).2 wx
  rw [both_yes h1, h1, h2, h3] at this
  exact this
/-- what a kid uses, and it and those ahead of it together -/
theorem kid_call (h : stateOkV s = true) {nm : List UInt8} {i : Nat} (h1 : 1 ≤ i) (hi : i < s.qs.length) (hp : s.qs[i].parent = nm) {a b c d : Int} (hk : kidsU s nm i = (a, b)) (hk' : kidsU s nm (i + 1) = (c, d)) : ∃ u1 u2 : Int, (∀ wx, DrU wx y s hs → Calls Tryz.prog 18 #[sv y s, .string (bs s.qs[i].name)] wx fun e w' => e = .returned (rv u1 u2) ∧ Below wx.heap.size wx w') ∧
    (∀ wx, Calls Tryz.prog 30 #[rv a b, rv u1 u2] wx fun e w' => e = .returned (.tuple #[rv c d, .bool true]) ∧ Below wx.heap.size wx w') := by
  obtain ⟨h2, h3⟩ := kids_step h h1 hi hp
  rw [hk] at h2 h3
  rw [hk'] at h3
  simp only [Prod.mk.injEq] at h2 h3
  refine ⟨_, _, fun wx D => ubI D rfl, fun wx => ?_⟩
  have := implAdd_any a b (usedByV s s.qs[i].name).1 (usedByV s s.qs[i].name).2 wx
  rw [both_yes h2, h2, ← h3.1, ← h3.2] at this
  exact this
end
/-- the state that StateNew answers -/
def newT (ls : List Q) : St := newSt (qlN ls) (epN ls) (nxN ls) (epN ls)
theorem newT_fit {ls : List Q} (hl : ls.length ≤ 1000) (hb : Brief ls) : FitSt (newT ls) := by
  refine new_fit _ _ _ ?_
  unfold qlN
  split
  · exact ⟨by omega, fun q hq => by have := hb q hq; omega⟩
  · exact ⟨by simp, by simp⟩
theorem newT_ok {ls : List Q} (h : queuesOk ls = true) : stateOkV (newT ls) = true := by
  unfold newT qlN epN nxN
  simp only [h, if_true]
  rw [new_ok, h]
theorem snI {w : World} {ao : Option Addr} {n c : Nat} {ls : List Q} (h : QRow w ao n ls) (hn : n ≤ 1000) (hb : Brief ls) (hc : n ≤ c) {b : Bool} (hq : queuesOk ls = b) {T : St} (hT : newT ls = T) :
    Calls Tryz.prog 14 #[.slice ao n c] w fun e w' => ∃ qo m k, e = .returned (.tuple #[sv (newX qo m k) T, .bool b]) ∧ Hid (SRow w' (newX qo m k) T) ∧ m ≤ k ∧ Below w.heap.size w w' := by
  subst hq hT
  have hl : ls.length ≤ 1000 := by have := h.1; omega
  have hfq : FitQ ls := ⟨by omega, fun q hq => by have := hb q hq; omega⟩
  refine (implStateNew_any ao n c ls w h (by omega) hfq (fun qo n c wy hr hc => by have := implStateOk_any (newX qo n c) (newSt ls 1 1001 1) wy (new_row 1 1001 1 hr) (new_fit 1 1001 1 hfq) hc ⟨by simp, by simp⟩; rw [new_ok] at this; exact this) hc).mono ?_
  rintro e w' h'
  obtain ⟨qo, m, k, rfl, rfl, ho, hbl⟩ := h'.one
  obtain ⟨ao', cap, e, hr, hk, _⟩ := qown_rowx ho
  cases e
  exact ⟨qo, _, k, rfl, hide (new_row _ _ _ hr), hk, hbl⟩
theorem snS {w : World} {qb n c : Nat} {ls : List Q} (h : QRow w (some ⟨qb, 0, none⟩) n ls) (hn : n ≤ 1000) (hb : Brief ls) {b : Bool} (hq : queuesOk ls = b) {T : St} (hT : newT ls = T) :
    Calls Tryz.prog 15 #[.slice (some ⟨qb, 0, none⟩) n c] w fun e w' => ∃ qo m k, e = .returned (.tuple #[sv (newX qo m k) T, .bool b]) ∧ Hid (SRow w' (newX qo m k) T) ∧ Below w.heap.size w w' := by
  subst hq hT
  have hl : ls.length ≤ 1000 := by have := h.1; omega
  have hfq : FitQ ls := ⟨by omega, fun q hq => by have := hb q hq; omega⟩
  refine (specStateNew_any (some ⟨qb, 0, none⟩) n c ls w h (by omega) hfq ⟨_, rfl⟩ (fun qo n c wy hr _ => by have := specStateOk_any (newX qo n c) (newSt ls 1 1001 1) wy (new_row 1 1001 1 hr) (new_fit 1 1001 1 hfq); rw [new_ok] at this; exact this)).mono ?_
  rintro e w' h'
  obtain ⟨qo, m, k, rfl, rfl, ho, hbl⟩ := h'.one
  obtain ⟨ao', cap, e, hr, hk, _⟩ := qown_rowx ho
  cases e
  exact ⟨qo, _, k, rfl, hide (new_row _ _ _ hr), hbl⟩
theorem newOk {w : World} {qo : Option Addr} {m k : Nat} {ls : List Q} {T : St} (hT : newT ls = T) (hq : queuesOk ls = true) (hl : ls.length ≤ 1000) (hb : Brief ls) (h : SRow w (newX qo m k) T) (hk : m ≤ k) :
    Calls Tryz.prog 23 #[sv (newX qo m k) T] w fun e w' => e = .returned (.bool true) ∧ Below w.heap.size w w' := by
  subst hT
  have := implStateOk_any (newX qo m k) (newT ls) w h (newT_fit hl hb) hk ⟨by intro a ha; exact absurd ha (by simp [newT]), by intro a ha; exact absurd ha (by simp [newT])⟩
  rw [newT_ok hq] at this
  exact this
end Go.Proofs.YtcplnodfcchdhaaGreat

/-
  The code that a law takes: a slice of bytes that came in.
-/
namespace Go.Proofs.YtcplnodfcchdhaaGreat
open Go.RowKit
set_option linter.unusedVariables false
/-- nil, or a row of cap cells of which the first len are its elements -/
def IsRow (w : World) (a : Option Addr) (len cap : Nat) (zs : List Int) : Prop :=
  (a = none ∧ len = 0 ∧ cap = 0 ∧ zs = []) ∨
  ∃ x, a = some x ∧ len ≤ cap ∧ cap ≤ maxLen ∧ zs.length = cap ∧ (∀ i, i < zs.length → w.cell? (x.add i) = some (.int .u8 (zs.getD i 0))) ∧ ∀ n ∈ zs, (Lit.int .u8 n).wf = true
theorem IsRow.len {w : World} {a : Option Addr} {len cap : Nat} {zs : List Int} (h : IsRow w a len cap zs) : len ≤ 9223372036854775807 := by
  rcases h with ⟨_, h0, _⟩ | ⟨x, rfl, h1, h2, _⟩
  · omega
  · unfold maxLen at h2; omega
theorem code_of {w : World} {a : Option Addr} {len cap : Nat} {zs : List Int} (h : IsRow w a len cap zs) (hl : len ≤ 1048576) : Code w w.heap.size a len := by
  refine ⟨Nat.le_refl _, hl, ?_⟩
  rcases h with ⟨_, h0, _⟩ | ⟨x, rfl, h1, h2, h3, h4, h5⟩
  · exact .inl h0
  · by_cases h0 : len = 0
    · exact .inl h0
    · refine .inr ?_
      obtain ⟨b, off, spot⟩ := x
      have hc0 := h4 0 (by omega)
      have hspot : spot = none := by simpa [Addr.add] using World.cell?_spot hc0
      subst hspot
      rw [Lib.add_plain] at hc0
      refine ⟨b, off, fun j => (zs.getD j 0), rfl, cell_lt hc0, fun j hj => ?_, fun j => ?_⟩
      · have := h4 j (by omega)
        rw [Lib.add_plain] at this
        exact this
      · by_cases hj : j < zs.length
        · have hw := h5 zs[j] (List.getElem_mem hj)
          have hb := bounds_u8 hw
          simp only [List.getD_eq_getElem?_getD, List.getElem?_eq_getElem hj, Option.getD_some]
          omega
        · simp only [List.getD_eq_getElem?_getD, List.getElem?_eq_none (Nat.le_of_not_lt hj), Option.getD_none]; omega
def bigB (len : Nat) : Bool := decide (1048576 < (len : Int))
set_option maxHeartbeats 400000 in
theorem big_any (a : Option Addr) (len cap : Nat) (w : World) (h : len ≤ 9223372036854775807) :
    Calls Tryz.prog 4 #[.slice a len cap] w fun e w' => e = .returned (.bool (bigB len)) ∧ w = w' := by
  go_enter Tryz.func4, Tryz.ntmps4
  go_wp2
  go_ret
  exact ⟨rfl, rfl⟩
end Go.Proofs.YtcplnodfcchdhaaGreat
