/-
  A queue, its parent, and so on: what the program's function that takes a yield hands on; walks over the dump.
-/
import Derived.RangeFuncNested
import Derived.RangeFuncBound
import Derived.RangeFuncCalls
import Derived.RangeFuncLeaves
import Derived.Shelf.Abstract
import Derived.Shelf.AbstractIn
import Derived.Shelf.RegionOpen
import Derived.WalkKit
import Derived.OwnWalkIn
import Derived.TacticsInMore
import Derived.LoopNIn
import Derived.LoopIn
import Derived.Test.YtcplnodfcchdhaaGreatPackAF
import Derived.Test.YtcplnodfcchdhaaGreatPackQ
namespace Go.Proofs.YtcplnodfcchdhaaGreat
open Go.RowKit Go.Shelf
set_option linter.unusedVariables false
attribute [local go_sem] Oper.semAt_some

/-- what a round that goes on keeps: what lay below n, and every variable that holds a queue -/
def KpQ (n : Nat) (W W' : World) : Prop := Below n W W' ∧ ∀ k q, QBox W k q → QBox W' k q
theorem kpq_t {n : Nat} {A B C : World} (h : KpQ n A B) (k : KpQ n B C) : KpQ n A C := ⟨h.1.trans k.1, fun i q hq => k.2 i q (h.2 i q hq)⟩
theorem kpq_b {n : Nat} {w : World} (hn : n ≤ w.heap.size) (W : World) (l : Nat) (o o' : Obj) (hl : w.heap.size ≤ l) (h : W.heap[l]? = some o) (h1 : o.isCells = false) (h2 : o.isWalk = false) : KpQ n W (W.putObj l o') := by
  refine ⟨belowK_b hn W l o o' hl h h1 h2, fun k q hq => ?_⟩
  have hne : k ≠ l := fun e => by
    subst e
    rw [show W.heap[k]? = _ from hq] at h
    cases h
    cases h1
  exact ((grownBy_putObj' W l o').block k hq.lt (by simp; omega)).trans hq
theorem kpq_of {n : Nat} {W W' : World} (hn : n ≤ W.heap.size) (h : Below W.heap.size W W') : KpQ n W W' := ⟨h.mono hn, fun k q hq => hq.below h⟩
def sliceLen : Value → Nat
  | .slice _ n _ => n
  | _ => 0
theorem abide {J : List Q → World → Prop} {B : Nat} (hJ : AbidesFrom B J) {pre : List Q} {W W' : World} (h : J pre W) (hb : Below W.heap.size W W') : J pre W' :=
  hJ pre W W' none h (grownBy_below (grownBy_refl W none) hb) (fun r e => by cases e)

set_option maxRecDepth 100000 in
set_option maxHeartbeats 4000000 in
theorem above1_in (n l Bq Bn : Nat) (ao : Option Addr) (len cap : Nat) (ls : List Q) (nm : List UInt8) (w0 W : World) (J Jx : List Q → World → Prop) (hJ : AbidesFrom W.heap.size J)
    (hY : ∀ pre x W1, x ∈ ls → J pre W1 → pre.length < ls.length → YieldAt Fence.wide (n - 1) Tryz.prog l #[qv x] W1 fun e W' =>
      (e = .returned (.bool true) ∧ J (pre ++ [x]) W' ∧ KpQ w0.heap.size W1 W') ∨ (e = .returned (.bool false) ∧ Jx (pre ++ [x]) W'))
    (hq : W.cell? ⟨Bq, 0, none⟩ = some (.slice ao len cap)) (hnm : W.cell? ⟨Bn, 0, none⟩ = some (.string (bs nm))) (h : QRow w0 ao len ls) (hb : Below w0.heap.size w0 W) (hl : len ≤ 1048576) (hc : len ≤ cap) (h0 : J [] W) :
    CallsIn Fence.wide n Tryz.prog 121 #[.func (.yield l) #[] #[], .pointer (some ⟨Bq, 0, none⟩), .pointer (some ⟨Bn, 0, none⟩)] W fun e W' => (∃ v, e = .returned v) ∧
      ((∃ ys, ys = ups ls nm ∧ J ys W') ∨ (∃ pre, pre <+: ups ls nm ∧ Jx pre W')) := by
  have HR := hide h
  have HL := hide h.1
  have HB := hide hb
  have HJ := hide hJ
  have HY := hide hY
  have H0 := hide h0
  have CP := hide (fun wx (hb : Below w0.heap.size w0 wx) (k : Nat) (hk : k ≤ len) (x : List UInt8) => place_any ao k cap (ls.take k) x wx ((h.below hb).take hk) (by omega))
  obtain ⟨p0, hp0⟩ : ∃ p, place (ls.take len) nm = p := ⟨_, rfl⟩
  have CP0 := hide (by have := unhide CP W.drew hb.drew len (Nat.le_refl _) nm; rw [hp0] at this; exact this)
  have HU0 := hide (show ups ls nm = [] ++ ups (ls.take len) nm by rw [show ls.take len = ls by rw [h.1]; exact List.take_length]; rfl)
  have HP0 := hide hp0
  have HN := hide (ups_len (ls.length + 1) ls nm)
  clear h hb hJ hY h0 hp0
  have hmx : Tryz.prog.follows .mixedOrders = true := by kernel_rfl
  refine callsIn_of_wp Tryz.func121 rfl trivial ?_ rfl
  simp only [Tryz.ntmps121, List.size_toArray, List.length_cons, List.length_nil, Nat.reduceAdd, Nat.reduceSub, Array.replicate_succ, Array.replicate_zero, List.push_toArray, List.append_toArray, List.nil_append, List.cons_append]
  gi_wp2_with fail
  gi_region_o
  gi_wp2_with fail
  refine ⟨trivial, (by intro e; cases e), ?_⟩
  refine (callsIn_wide.2 (unhide CP0)).mono ?_
  rintro e w1 ⟨rfl, hb⟩
  have HB1 := hide (below_on (unhide HB).drew hb)
  have H1 := hide (abide (unhide HJ) (unhide H0) (below_on (Below.refl _ W).drew hb))
  clear hb HB H0 CP0 hq hnm
  gi_wp2
  gi_loopw [4, 5, 6, 7] (fun a s i _ wr => ∃ (k : Nat) (x : List UInt8) (pre : List Q) (p : Int), k ≤ len ∧ a = .slice ao k cap ∧ s = .string (bs x) ∧ i = .int .i64 p ∧ Hid (place (ls.take k) x = p) ∧ Hid (ups ls nm = pre ++ ups (ls.take k) x) ∧ Hid (J pre wr) ∧ Hid (Below w0.heap.size w0 wr)) (fun a _ _ _ _ => sliceLen a)
  case atStart => exact ⟨len, nm, [], p0, Nat.le_refl _, rfl, rfl, rfl, HP0, HU0, H1, HB1⟩
  case round =>
    obtain ⟨k, x, pre, p, hk, rfl, rfl, rfl, HP, HU, HJ1, HBr⟩ := hrel
    clear HB1 H1 HP0 HU0
    by_cases h0 : 0 ≤ p
    · obtain ⟨j, rfl⟩ : ∃ j : Nat, p = j := ⟨p.toNat, by omega⟩
      have hjk : j < k := by have := place_range (ls.take k) x; rw [unhide HP] at this; simp at this; omega
      have hjl : j < (ls.take k).length := by simp; have := unhide HL; omega
      have hst := ups_step hjl (unhide HP)
      obtain ⟨b, off, rfl, hq⟩ := (((unhide HR).below (unhide HBr)).take hk).at hjk
      obtain ⟨c0, c1, c2, c3⟩ := hq hjl
      rw [List.take_take, show min j k = j by omega] at hst
      obtain ⟨⟨qn, pa, du, mo⟩, hs⟩ : ∃ s, (ls.take k)[j] = s := ⟨_, rfl⟩
      have hin : (⟨qn, pa, du, mo⟩ : Q) ∈ ls := by rw [← hs]; exact List.mem_of_mem_take (List.getElem_mem _)
      rw [hs] at c0 c1 c2 c3 hst
      simp only at c0 c1 c2 c3 hst
      have HA := hide (QBox.new wr ⟨qn, pa, du, mo⟩)
      have HB2 := hide (below_al (unhide HBr) (qobj ⟨qn, pa, du, mo⟩))
      have hlt : pre.length < ls.length := by
        have e := congrArg List.length (unhide HU)
        rw [hst] at e
        have := unhide HN
        rw [show upsFrom (ls.length + 1) ls nm = ups ls nm from rfl, e] at this
        simp at this
        omega
      obtain ⟨fn, tmps, assign, body, hy, hR⟩ := unhide HY pre ⟨qn, pa, du, mo⟩ _ hin (abide (unhide HJ) (unhide HJ1) (below_al (Below.refl _ wr) (qobj ⟨qn, pa, du, mo⟩))) hlt
      have HRR := hide hR
      have HST := hide hst
      have k0 := (unhide HA).c0
      have k1 := (unhide HA).c1
      have k2 := (unhide HA).c2
      have k3 := (unhide HA).c3
      simp only at k0 k1 k2 k3
      clear hq hR hst hs hjl hlt hin
      gi_wp2
      refine ⟨(by intro e; cases e), ?_⟩
      refine (unhide HRR).mono ?_
      rintro e W3 (⟨rfl, hJ3, hk3⟩ | ⟨rfl, hJx3⟩)
      · have HA3 := hide (hk3.2 _ _ (unhide HA))
        have HB3 := hide ((unhide HB2).trans hk3.1)
        have HJ3 := hide hJ3
        clear k0 k1 k2 k3 hJ3 hk3 hy HRR c0 c1 c2 c3
        have k1 := (unhide HA3).c1
        simp only at k1
        have hcut := cut_q b off k cap j (by omega)
        have hjc : (j : Int) ≤ cap := by omega
        obtain ⟨p', hp'⟩ : ∃ p, place (ls.take j) pa = p := ⟨_, rfl⟩
        have CPj := hide (by have := unhide CP W3.drew (unhide HB3).drew j (by omega) pa; rw [hp'] at this; exact this)
        have HP' := hide hp'
        clear hp'
        gi_wp2_with fail
        gi_region_o
        gi_wp2_with fail
        refine ⟨trivial, (by intro e; cases e), ?_⟩
        refine (callsIn_wide.2 (unhide CPj)).mono ?_
        rintro e w4 ⟨rfl, hb⟩
        have HB4 := hide (below_on (unhide HB3).drew hb)
        have HJ4 := hide (abide (unhide HJ) (unhide HJ3) (below_on (Below.refl _ W3).drew hb))
        clear hb CPj k1
        gi_wp2
        go_roundw
        case rel => exact ⟨j, pa, pre ++ [⟨qn, pa, du, mo⟩], p', by omega, rfl, rfl, rfl, HP', hide (by rw [unhide HU, unhide HST]; simp), HJ4, HB4⟩
        case measure => simp [sliceLen]; omega
      · gi_wp2
        refine bodyPost_ret (results_none rfl _ _ _) rfl ?_
        exact ⟨⟨_, rfl⟩, .inr ⟨pre ++ [⟨qn, pa, du, mo⟩], ⟨ups (ls.take j) pa, by rw [unhide HU, unhide HST]; simp⟩, hJx3⟩⟩
    · gi_wp2
      go_end0
      have he : pre = ups ls nm := by rw [unhide HU, ups_none (by rw [unhide HP]; omega)]; simp
      subst he
      exact ⟨⟨_, rfl⟩, .inl (by first | exact unhide HJ1 | exact ⟨_, rfl, unhide HJ1⟩)⟩

set_option maxHeartbeats 1000000 in
theorem above_any (ao : Option Addr) (len cap : Nat) (nm : List UInt8) (w : World) :
    Calls Tryz.prog 96 #[.slice ao len cap, .string (bs nm)] w fun e w' => e = .returned (.func (.func 121) #[] #[.pointer (some ⟨w.heap.size, 0, none⟩), .pointer (some ⟨w.heap.size + 1, 0, none⟩)]) ∧ (w.alloc (.cells #[.slice ao len cap] 24)).alloc (.cells #[.string (bs nm)] 9) = w' := by
  have hmf : ∀ (fn : Fn) (first cap : Array Value) (w : World), (Instr.makeFunc fn first cap).run Tryz.prog w = .ok (.func fn first cap) w := fun _ _ _ _ => rfl
  go_enter Tryz.func96, Tryz.ntmps96
  go_wp2
  go_ret
  exact ⟨rfl, rfl⟩
/-- the function value hands on the queues above, or some of them, the first ones -/
theorem above_stops (n Bq Bn : Nat) (ao : Option Addr) (len cap : Nat) (ls : List Q) (nm : List UInt8) (w0 w : World) (h : QRow w0 ao len ls) (hb : Below w0.heap.size w0 w) (hl : len ≤ 1048576) (hc : len ≤ cap)
    (hq : w.cell? ⟨Bq, 0, none⟩ = some (.slice ao len cap)) (hn : w.cell? ⟨Bn, 0, none⟩ = some (.string (bs nm))) :
    SeqStopsK Fence.wide n Tryz.prog 121 #[.pointer (some ⟨Bq, 0, none⟩), .pointer (some ⟨Bn, 0, none⟩)] (fun x : { q : Q // q ∈ ls } => #[qv x.1]) (KpQ w0.heap.size) (fun ys => ys.map Subtype.val = ups ls nm) (fun pre => pre.map Subtype.val <+: ups ls nm) ls.length w := by
  intro l J Jx W hW hJ hJx hY h0
  refine (above1_in n l Bq Bn ao len cap ls nm w0 W (fun pre W => ∃ p : List { q : Q // q ∈ ls }, p.map Subtype.val = pre ∧ J p W) (fun pre W => ∃ p : List { q : Q // q ∈ ls }, p.map Subtype.val = pre ∧ Jx p W)
    (fun s A B row hs hg hr => by obtain ⟨p, e, hj⟩ := hs; exact ⟨p, e, hJ p A B row hj hg hr⟩) ?_ ((hW.cell (p := ⟨Bq, 0, none⟩) (cell_lt hq)).trans hq) ((hW.cell (p := ⟨Bn, 0, none⟩) (cell_lt hn)).trans hn) h (below_on hb hW) hl hc ⟨[], rfl, h0⟩).mono ?_
  · rintro pre x W1 hx ⟨p, rfl, hj⟩ hlt
    obtain ⟨fn, tmps, assign, body, hy, hR⟩ := hY p ⟨x, hx⟩ W1 hj (by simpa using hlt)
    refine ⟨fn, tmps, assign, body, hy, hR.mono ?_⟩
    rintro e W' (⟨rfl, hj', hk⟩ | ⟨rfl, hj'⟩)
    · exact .inl ⟨rfl, ⟨p ++ [⟨x, hx⟩], by simp, hj'⟩, hk⟩
    · exact .inr ⟨rfl, ⟨p ++ [⟨x, hx⟩], by simp, hj'⟩⟩
  · rintro e W' ⟨hv, ⟨ys, hy, p, hp, hj⟩ | ⟨pre, hpre, p, hp, hj⟩⟩
    · exact ⟨hv, .inl ⟨p, hp.trans hy, hj⟩⟩
    · exact ⟨hv, .inr ⟨p, (show p.map Subtype.val <+: ups ls nm by rw [hp]; exact hpre), hj⟩⟩
end Go.Proofs.YtcplnodfcchdhaaGreat
