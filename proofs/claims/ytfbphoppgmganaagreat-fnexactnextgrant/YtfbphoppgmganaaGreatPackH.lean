/-
  Several texts of this claim in one: AboveI, UsedI, KpAB, BackA, AppsI, HasI, WfS (pack.py put them together); each says in its own remark what is proved.
-/
import Derived.RangeFuncNested
import Derived.RangeFuncBound
import Derived.RangeFuncCalls
import Derived.RangeFuncLeaves
import Derived.Shelf.Abstract
import Derived.Shelf.AbstractIn
import Derived.Shelf.RegionOpen
import Derived.WalkKit
import Derived.OwnWalkIn
import Derived.TacticsInMore
import Derived.LoopNIn
import Derived.LoopIn
import Derived.Test.YtfbphoppgmganaaGreatPackG
import Derived.Test.YtfbphoppgmganaaGreatPackF
import Derived.Test.YtfbphoppgmganaaGreatPackE
import Derived.Test.YtfbphoppgmganaaGreatStAll
/-
  A queue, its parent, and so on: what the program's function that takes a yield hands on; walks over the dump.
-/
namespace Go.Proofs.YtfbphoppgmganaaGreat
open Go.RowKit Go.Shelf
set_option linter.unusedVariables false
attribute [local go_sem] Oper.semAt_some

/-- what a round that goes on keeps: what lay below n, and every variable that holds a queue -/
def KpQ (n : Nat) (W W' : World) : Prop := Below n W W' ∧ ∀ k q, QBox W k q → QBox W' k q
theorem kpq_t {n : Nat} {A B C : World} (h : KpQ n A B) (k : KpQ n B C) : KpQ n A C := ⟨h.1.trans k.1, fun i q hq => k.2 i q (h.2 i q hq)⟩
theorem kpq_b {n : Nat} {w : World} (hn : n ≤ w.heap.size) (W : World) (l : Nat) (o o' : Obj) (hl : w.heap.size ≤ l) (h : W.heap[l]? = some o) (h1 : o.isCells = false) (h2 : o.isWalk = false) : KpQ n W (W.putObj l o') := by
  refine ⟨belowK_b hn W l o o' hl h h1 h2, fun k q hq => ?_⟩
  have hne : k ≠ l := fun e => by
    subst e
    rw [show W.heap[k]? = _ from hq] at h
    cases h
    cases h1
  exact ((grownBy_putObj' W l o').block k hq.lt (by simp; omega)).trans hq
theorem kpq_of {n : Nat} {W W' : World} (hn : n ≤ W.heap.size) (h : Below W.heap.size W W') : KpQ n W W' := ⟨h.mono hn, fun k q hq => hq.below h⟩
def sliceLen : Value → Nat
  | .slice _ n _ => n
  | _ => 0
theorem abide {J : List Q → World → Prop} {B : Nat} (hJ : AbidesFrom B J) {pre : List Q} {W W' : World} (h : J pre W) (hb : Below W.heap.size W W') : J pre W' :=
  hJ pre W W' none h (grownBy_below (grownBy_refl W none) hb) (fun r e => by cases e)

set_option maxRecDepth 100000 in
set_option maxHeartbeats 4000000 in
theorem above1_in (n l Bq Bn : Nat) (ao : Option Addr) (len cap : Nat) (ls : List Q) (nm : List UInt8) (w0 W : World) (J Jx : List Q → World → Prop) (hJ : AbidesFrom W.heap.size J)
    (hY : ∀ pre x W1, x ∈ ls → J pre W1 → pre.length < ls.length → YieldAt Fence.wide (n - 1) Tryz.prog l #[qv x] W1 fun e W' =>
      (e = .returned (.bool true) ∧ J (pre ++ [x]) W' ∧ KpQ w0.heap.size W1 W') ∨ (e = .returned (.bool false) ∧ Jx (pre ++ [x]) W'))
    (hq : W.cell? ⟨Bq, 0, none⟩ = some (.slice ao len cap)) (hnm : W.cell? ⟨Bn, 0, none⟩ = some (.string (bs nm))) (h : QRow w0 ao len ls) (hb : Below w0.heap.size w0 W) (hl : len ≤ 1048576) (hc : len ≤ cap) (h0 : J [] W) :
    CallsIn Fence.wide n Tryz.prog 320 #[.func (.yield l) #[] #[], .pointer (some ⟨Bq, 0, none⟩), .pointer (some ⟨Bn, 0, none⟩)] W fun e W' => (∃ v, e = .returned v) ∧
      ((∃ ys, ys = ups ls nm ∧ J ys W') ∨ (∃ pre, pre <+: ups ls nm ∧ Jx pre W')) := by
  have HR := hide h
  have HL := hide h.1
  have HB := hide hb
  have HJ := hide hJ
  have HY := hide hY
  have H0 := hide h0
  have CP := hide (fun wx (hb : Below w0.heap.size w0 wx) (k : Nat) (hk : k ≤ len) (x : List UInt8) => place_any ao k cap (ls.take k) x wx ((h.below hb).take hk) (by omega))
  obtain ⟨p0, hp0⟩ : ∃ p, place (ls.take len) nm = p := ⟨_, rfl⟩
  have CP0 := hide (by have := unhide CP W.drew hb.drew len (Nat.le_refl _) nm; rw [hp0] at this; exact this)
  have HU0 := hide (show ups ls nm = [] ++ ups (ls.take len) nm by rw [show ls.take len = ls by rw [h.1]; exact List.take_length]; rfl)
  have HP0 := hide hp0
  have HN := hide (ups_len (ls.length + 1) ls nm)
  clear h hb hJ hY h0 hp0
  have hmx : Tryz.prog.follows .mixedOrders = true := by kernel_rfl
  refine callsIn_of_wp Tryz.func320 rfl trivial ?_ rfl
  simp only [Tryz.ntmps320, List.size_toArray, List.length_cons, List.length_nil, Nat.reduceAdd, Nat.reduceSub, Array.replicate_succ, Array.replicate_zero, List.push_toArray, List.append_toArray, List.nil_append, List.cons_append]
  gi_wp2_with fail
  gi_region_o
  gi_wp2_with fail
  refine ⟨trivial, (by intro e; cases e), ?_⟩
  refine (callsIn_wide.2 (unhide CP0)).mono ?_
  rintro e w1 ⟨rfl, hb⟩
  have HB1 := hide (below_on (unhide HB).drew hb)
  have H1 := hide (abide (unhide HJ) (unhide H0) (below_on (Below.refl _ W).drew hb))
  clear hb HB H0 CP0 hq hnm
  gi_wp2
  gi_loopw [4, 5, 6, 7] (fun a s i _ wr => ∃ (k : Nat) (x : List UInt8) (pre : List Q) (p : Int), k ≤ len ∧ a = .slice ao k cap ∧ s = .string (bs x) ∧ i = .int .i64 p ∧ Hid (place (ls.take k) x = p) ∧ Hid (ups ls nm = pre ++ ups (ls.take k) x) ∧ Hid (J pre wr) ∧ Hid (Below w0.heap.size w0 wr)) (fun a _ _ _ _ => sliceLen a)
  case atStart => exact ⟨len, nm, [], p0, Nat.le_refl _, rfl, rfl, rfl, HP0, HU0, H1, HB1⟩
  case round =>
    obtain ⟨k, x, pre, p, hk, rfl, rfl, rfl, HP, HU, HJ1, HBr⟩ := hrel
    clear HB1 H1 HP0 HU0
    by_cases h0 : 0 ≤ p
    · obtain ⟨j, rfl⟩ : ∃ j : Nat, p = j := ⟨p.toNat, by omega⟩
      have hjk : j < k := by have := place_range (ls.take k) x; rw [unhide HP] at this; simp at this; omega
      have hjl : j < (ls.take k).length := by simp; have := unhide HL; omega
      have hst := ups_step hjl (unhide HP)
      obtain ⟨b, off, rfl, hq⟩ := (((unhide HR).below (unhide HBr)).take hk).at hjk
      obtain ⟨c0, c1, c2, c3⟩ := hq hjl
      rw [List.take_take, show min j k = j by omega] at hst
      obtain ⟨⟨qn, pa, du, mo⟩, hs⟩ : ∃ s, (ls.take k)[j] = s := ⟨_, rfl⟩
      have hin : (⟨qn, pa, du, mo⟩ : Q) ∈ ls := by rw [← hs]; exact List.mem_of_mem_take (List.getElem_mem _)
      rw [hs] at c0 c1 c2 c3 hst
      simp only at c0 c1 c2 c3 hst
      have HA := hide (QBox.new wr ⟨qn, pa, du, mo⟩)
      have HB2 := hide (below_al (unhide HBr) (qobj ⟨qn, pa, du, mo⟩))
      have hlt : pre.length < ls.length := by
        have e := congrArg List.length (unhide HU)
        rw [hst] at e
        have := unhide HN
        rw [show upsFrom (ls.length + 1) ls nm = ups ls nm from rfl, e] at this
        simp at this
        omega
      obtain ⟨fn, tmps, assign, body, hy, hR⟩ := unhide HY pre ⟨qn, pa, du, mo⟩ _ hin (abide (unhide HJ) (unhide HJ1) (below_al (Below.refl _ wr) (qobj ⟨qn, pa, du, mo⟩))) hlt
      have HRR := hide hR
      have HST := hide hst
      have k0 := (unhide HA).c0
      have k1 := (unhide HA).c1
      have k2 := (unhide HA).c2
      have k3 := (unhide HA).c3
      simp only at k0 k1 k2 k3
      clear hq hR hst hs hjl hlt hin
      gi_wp2
      refine ⟨(by intro e; cases e), ?_⟩
      refine (unhide HRR).mono ?_
      rintro e W3 (⟨rfl, hJ3, hk3⟩ | ⟨rfl, hJx3⟩)
      · have HA3 := hide (hk3.2 _ _ (unhide HA))
        have HB3 := hide ((unhide HB2).trans hk3.1)
        have HJ3 := hide hJ3
        clear k0 k1 k2 k3 hJ3 hk3 hy HRR c0 c1 c2 c3
        have k1 := (unhide HA3).c1
        simp only at k1
        have hcut := cut_q b off k cap j (by omega)
        have hjc : (j : Int) ≤ cap := by omega
        obtain ⟨p', hp'⟩ : ∃ p, place (ls.take j) pa = p := ⟨_, rfl⟩
        have CPj := hide (by have := unhide CP W3.drew (unhide HB3).drew j (by omega) pa; rw [hp'] at this; exact this)
        have HP' := hide hp'
        clear hp'
        gi_wp2_with fail
        gi_region_o
        gi_wp2_with fail
        refine ⟨trivial, (by intro e; cases e), ?_⟩
        refine (callsIn_wide.2 (unhide CPj)).mono ?_
        rintro e w4 ⟨rfl, hb⟩
        have HB4 := hide (below_on (unhide HB3).drew hb)
        have HJ4 := hide (abide (unhide HJ) (unhide HJ3) (below_on (Below.refl _ W3).drew hb))
        clear hb CPj k1
        gi_wp2
        go_roundw
        case rel => exact ⟨j, pa, pre ++ [⟨qn, pa, du, mo⟩], p', by omega, rfl, rfl, rfl, HP', hide (by rw [unhide HU, unhide HST]; simp), HJ4, HB4⟩
        case measure => simp [sliceLen]; omega
      · gi_wp2
        refine bodyPost_ret (results_none rfl _ _ _) rfl ?_
        exact ⟨⟨_, rfl⟩, .inr ⟨pre ++ [⟨qn, pa, du, mo⟩], ⟨ups (ls.take j) pa, by rw [unhide HU, unhide HST]; simp⟩, hJx3⟩⟩
    · gi_wp2
      go_end0
      have he : pre = ups ls nm := by rw [unhide HU, ups_none (by rw [unhide HP]; omega)]; simp
      subst he
      exact ⟨⟨_, rfl⟩, .inl (by first | exact unhide HJ1 | exact ⟨_, rfl, unhide HJ1⟩)⟩

set_option maxHeartbeats 1000000 in
theorem above_any (ao : Option Addr) (len cap : Nat) (nm : List UInt8) (w : World) :
    Calls Tryz.prog 273 #[.slice ao len cap, .string (bs nm)] w fun e w' => e = .returned (.func (.func 320) #[] #[.pointer (some ⟨w.heap.size, 0, none⟩), .pointer (some ⟨w.heap.size + 1, 0, none⟩)]) ∧ (w.alloc (.cells #[.slice ao len cap] 35)).alloc (.cells #[.string (bs nm)] 9) = w' := by
  have hmf : ∀ (fn : Fn) (first cap : Array Value) (w : World), (Instr.makeFunc fn first cap).run Tryz.prog w = .ok (.func fn first cap) w := fun _ _ _ _ => rfl
  go_enter Tryz.func273, Tryz.ntmps273
  go_wp2
  go_ret
  exact ⟨rfl, rfl⟩
/-- the function value hands on the queues above, or some of them, the first ones -/
theorem above_stops (n Bq Bn : Nat) (ao : Option Addr) (len cap : Nat) (ls : List Q) (nm : List UInt8) (w0 w : World) (h : QRow w0 ao len ls) (hb : Below w0.heap.size w0 w) (hl : len ≤ 1048576) (hc : len ≤ cap)
    (hq : w.cell? ⟨Bq, 0, none⟩ = some (.slice ao len cap)) (hn : w.cell? ⟨Bn, 0, none⟩ = some (.string (bs nm))) :
    SeqStopsK Fence.wide n Tryz.prog 320 #[.pointer (some ⟨Bq, 0, none⟩), .pointer (some ⟨Bn, 0, none⟩)] (fun x : { q : Q // q ∈ ls } => #[qv x.1]) (KpQ w0.heap.size) (fun ys => ys.map Subtype.val = ups ls nm) (fun pre => pre.map Subtype.val <+: ups ls nm) ls.length w := by
  intro l J Jx W hW hJ hJx hY h0
  refine (above1_in n l Bq Bn ao len cap ls nm w0 W (fun pre W => ∃ p : List { q : Q // q ∈ ls }, p.map Subtype.val = pre ∧ J p W) (fun pre W => ∃ p : List { q : Q // q ∈ ls }, p.map Subtype.val = pre ∧ Jx p W)
    (fun s A B row hs hg hr => by obtain ⟨p, e, hj⟩ := hs; exact ⟨p, e, hJ p A B row hj hg hr⟩) ?_ ((hW.cell (p := ⟨Bq, 0, none⟩) (cell_lt hq)).trans hq) ((hW.cell (p := ⟨Bn, 0, none⟩) (cell_lt hn)).trans hn) h (below_on hb hW) hl hc ⟨[], rfl, h0⟩).mono ?_
  · rintro pre x W1 hx ⟨p, rfl, hj⟩ hlt
    obtain ⟨fn, tmps, assign, body, hy, hR⟩ := hY p ⟨x, hx⟩ W1 hj (by simpa using hlt)
    refine ⟨fn, tmps, assign, body, hy, hR.mono ?_⟩
    rintro e W' (⟨rfl, hj', hk⟩ | ⟨rfl, hj'⟩)
    · exact .inl ⟨rfl, ⟨p ++ [⟨x, hx⟩], by simp, hj'⟩, hk⟩
    · exact .inr ⟨rfl, ⟨p ++ [⟨x, hx⟩], by simp, hj'⟩⟩
  · rintro e W' ⟨hv, ⟨ys, hy, p, hp, hj⟩ | ⟨pre, hpre, p, hp, hj⟩⟩
    · exact ⟨hv, .inl ⟨p, hp.trans hy, hj⟩⟩
    · exact ⟨hv, .inr ⟨p, (show p.map Subtype.val <+: ups ls nm by rw [hp]; exact hpre), hj⟩⟩
end Go.Proofs.YtfbphoppgmganaaGreat

/-
  What those containers have together that count, by the program: used, UsedOn; walks over the dump.
-/
namespace Go.Proofs.YtfbphoppgmganaaGreat
open Go.RowKit
set_option linter.unusedVariables false

abbrev conobj (m : Con) : Obj := .cells #[.int .i64 m.id, .int .i64 m.app, .string (bs m.node), .int .i64 m.mem, .int .i64 m.cpu] 32
theorem used_len {p : Con → Bool} (l : List Con) : (usedL p l).length ≤ l.length := by simp [usedL]; exact List.length_filter_le _ _

set_option maxRecDepth 100000 in
set_option maxHeartbeats 4000000 in
theorem used_any (g : Nat) (lb : Array Value) (eg : ∀ args w, (callFunc g args).run Tryz.prog w = .ok (.enter g args) w) (p : Con → Bool) (x : Sls) (s : St) (w : World) (h : ConRow w x.ca x.cl s.cs) (hl : x.cl ≤ 1048576)
    (hp : ∀ wx q, Below w.heap.size w wx → Calls Tryz.prog g (#[conv q] ++ lb) wx fun e w' => e = .returned (.bool (p q)) ∧ Below wx.heap.size wx w') :
    Calls Tryz.prog 219 #[sv x s, .func (.func g) #[] lb] w fun e w' => e = .returned (rv (sumR (usedL p s.cs)).1 (sumR (usedL p s.cs)).2.1) ∧ Below w.heap.size w w' := by
  obtain ⟨i0, hi, hz0, hz1, hz2⟩ := info_parts Tryz.infoR
  obtain ⟨qa, ql, qc, aa, al, ac, ma, ml, mc, ca, cl, cc⟩ := x
  obtain ⟨qs, clock, epoch, next, serial, apps, ms, cs⟩ := s
  simp only at h hl ⊢
  have HR := hide h
  have HL := hide h.1
  have HP := hide hp
  obtain ⟨c, hc⟩ : ∃ c : Array Value, #[.slice qa ql qc, .int .i64 clock, .int .i64 epoch, .int .i64 next, .int .i64 serial, .slice aa al ac, .slice ma ml mc, .slice ca cl cc] = c := ⟨_, rfl⟩
  have HC := hide hc
  have HB0 := hide (capW_below w c)
  have V0 := hide (capW_var w c)
  have HW := hide (capW_size w c)
  clear h hc hp
  obtain ⟨⟨sx, sy, so⟩, hs⟩ : ∃ s, sumR (usedL p cs) = s := ⟨_, rfl⟩
  have HS := hide hs
  rw [hs]
  clear hs
  go_enter Tryz.func219, Tryz.ntmps219
  go_wp2
  go_loopw [5, 13] (fun v i wr => ∃ (k : Nat), k ≤ cl ∧ i = .int .i64 k ∧ Hid (ROwn (capW w c).heap.size wr v (usedL p (cs.take k))) ∧ Hid (Below (capW w c).heap.size (capW w c) wr)) (fun _ i _ => cl - (intOf i).toNat)
  case atStart =>
    obtain rfl := unhide HC
    exact ⟨0, Nat.zero_le _, rfl, hide (by simpa [usedL] using rown_nil _ _), hide (Below.refl _ _)⟩
  case round =>
    obtain ⟨k, hk, rfl, HO, HB⟩ := hrel
    by_cases hlt : k < cl
    · obtain ⟨b, off, rfl, hq⟩ := (((unhide HR).below (unhide HB0)).below (unhide HB)).at hlt
      have hkl : k < cs.length := by have := unhide HL; omega
      have hst := usedL_step (p := p) hkl
      obtain ⟨c0, c1, c2, c3, c4⟩ := hq hkl
      obtain ⟨m, hs⟩ : ∃ q, cs[k] = q := ⟨_, rfl⟩
      rw [hs] at c0 c1 c2 c3 c4 hst
      have hal : (usedL p (cs.take k)).length ≤ 1048576 := by have := used_len (p := p) (cs.take k); simp at this; omega
      obtain ⟨acc, hacc⟩ : ∃ a, usedL p (cs.take k) = a := ⟨_, rfl⟩
      rw [hacc] at hst hal HO
      obtain ⟨id, ap, nd, me, cp⟩ := m
      simp only at c0 c1 c2 c3 c4 hst
      have HBA := hide (below_al (Below.refl _ wr) (conobj ⟨id, ap, nd, me, cp⟩))
      have HCL := hide (unhide HP (wr.alloc (conobj ⟨id, ap, nd, me, cp⟩)) ⟨id, ap, nd, me, cp⟩ (below_on (below_on (unhide HB0) (unhide HB)) (unhide HBA)))
      have KB := hide (blk_new wr #[.int .i64 id, .int .i64 ap, .string (bs nd), .int .i64 me, .int .i64 cp] 32)
      clear hq hs hkl hacc
      cases hpq : p ⟨id, ap, nd, me, cp⟩ with
      | true =>
        rw [hpq] at HCL
        rw [hpq, if_pos rfl] at hst
        have HST := hide hst
        clear hpq hst
        go_wp2_with (first
          | (go_at_fn g; refine (unhide HCL).mono ?_; rintro e w1 ⟨rfl, hb⟩; have HB1 := hide (below_on (below_on (unhide HB) (unhide HBA)) hb); have HO1 := hide (((unhide HO).below (unhide HBA)).below hb); have b1 := (unhide KB).below hb; have q3 := b1.at 3; have q4 := b1.at 4; simp at q3 q4; have hs2 : (capW w c).heap.size ≤ w1.heap.size := (unhide HB1).size; have hown : w1.ownsRow (capW w c).heap.size 30 2 _ acc.length (rcells acc) := unhide HO1; clear b1 hb HCL c0 c1 c2 c3 c4 HO HB)
          | (at_builtin; refine wpList_append_own _ rfl _ _ 234 rfl (capW w c).heap.size 30 i0 (.agg #[.int .i64 0, .int .i64 0]) 2 16 Tryz.underlying234 hi hz0 hz1 hz2 rfl (by decide) _ _ _ rfl (hown.alloc _) ⟨w1.heap.size, 0, none⟩ 1 1 (rcell (me, cp)) rfl rfl ?c1 ?c2 ?c3 ?c4 ?c5 ?_))
        case c1 =>
          intro j x hj
          match j, hj with
          | 0, hj => simp at hj; subst hj; simp [Addr.add]
          | 1, hj => simp at hj; subst hj; simp [Addr.add]
          | _ + 2, hj => simp at hj
        case c2 => intro x hx; simp at hx; rcases hx with rfl | rfl <;> rfl
        case c3 => unfold maxLen; omega
        case c4 => omega
        case c5 => simp at hs2 ⊢; omega
        intro v' w3 hown' hgrow _
        have R := rown_step (q := (me, cp)) (unhide HB1) (unhide HO1) hown' hgrow hs2
        have HR3 := hide R
        clear hown' hgrow hown R q3 q4
        go_wp2
        go_roundw
        case rel => exact ⟨k + 1, by omega, by go_num, hide (by rw [unhide HST]; exact (unhide HR3).1), hide (unhide HR3).2⟩
        case measure => simp [intOf]; omega
      | false =>
        rw [hpq] at HCL
        rw [hpq, if_neg (by simp)] at hst
        have HST := hide hst
        clear hpq hst
        go_wp2_with (go_at_fn g; refine (unhide HCL).mono ?_; rintro e w1 ⟨rfl, hb⟩; have HB1 := hide (below_on (below_on (unhide HB) (unhide HBA)) hb); have HO1 := hide (((unhide HO).below (unhide HBA)).below hb); clear hb HCL c0 c1 c2 c3 c4 HO HB)
        go_roundw
        case rel => exact ⟨k + 1, by omega, by go_num, hide (by rw [unhide HST]; exact unhide HO1), HB1⟩
        case measure => simp [intOf]; omega
    · have htk : cs.take k = cs := List.take_of_length_le (by have := unhide HL; omega)
      rw [htk] at HO
      obtain ⟨ao, cp, rfl, hrow, hcp⟩ := (unhide HO).row
      have hlc : (usedL p cs).length ≤ 1048576 := by have := used_len (p := p) cs; have := unhide HL; omega
      have CT := hide (together_any ao _ cp (usedL p cs) wr hrow hlc)
      rw [unhide HS] at CT
      obtain ⟨n, hn⟩ : ∃ n, (usedL p cs).length = n := ⟨_, rfl⟩
      rw [hn] at CT ⊢
      clear hrow hn htk hcp hlc HO
      go_wp2_with fail
      refine (unhide CT).mono ?_
      rintro e w1 ⟨rfl, hb⟩
      have hsz : w.heap.size + 1 < (capW w c).heap.size := by have := unhide HW; omega
      have V1 : Var w1 30 (w.heap.size + 1) 0 0 := Var.below ((unhide HB).block _ hsz |>.trans (unhide V0)) hb
      have HB1 := hide (below_on (below_on (unhide HB0) (unhide HB)) hb)
      have V2 := V1.al (.cells #[.int .i64 sx, .int .i64 sy] 30)
      have t0 := V2.c0
      have t1 := V2.c1
      have f0 := V2.f 0
      have f1 := V2.f 1
      have VG := V2.set sx sy
      have k6 := VG.c0
      have k7 := VG.c1
      clear hb V1 V2 VG CT HB HB0
      go_wp2
      refine bodyPost_ret (v := rv sx sy) (by simp [results, Tryz.results219, go_sem, k6, k7]) rfl ⟨rfl, ?_⟩
      repeat (first | exact unhide HB1 | refine below_al ?_ _ | refine below_sc ?_ _ _ _ (by omega))
end Go.Proofs.YtfbphoppgmganaaGreat

/-
  What a round that goes on keeps, where a map is filled: every row of cells.
-/
namespace Go.Proofs.YtfbphoppgmganaaGreat
open Go.RowKit Go.Shelf
set_option linter.unusedVariables false

/-- what a round that goes on keeps: every row of cells -/
def KpA (W W' : World) : Prop := ∀ (k : Nat) (o : Obj), W.heap[k]? = some o → o.isCells = true → W'.heap[k]? = some o
theorem kpa_t {A B C : World} (h : KpA A B) (k : KpA B C) : KpA A C := fun i o ho hc => k i o (h i o ho hc) hc
theorem kpa_b {w : World} (W : World) (l : Nat) (o o' : Obj) (hl : w.heap.size ≤ l) (h : W.heap[l]? = some o) (h1 : o.isCells = false) (h2 : o.isWalk = false) : KpA W (W.putObj l o') := fun k q hq hc => by
  have hne : k ≠ l := fun e => by
    subst e
    rw [hq] at h
    cases h
    rw [h1] at hc
    cases hc
  exact ((grownBy_putObj' W l o').block k (lt_of_block hq) (by simp; omega)).trans hq
theorem kpa_below {W W' : World} (h : Below W.heap.size W W') : KpA W W' := fun k o ho _ => (h.block k (lt_of_block ho)).trans ho
theorem cell_cells {W : World} {b j : Nat} {v : Value} (hc : W.cell? ⟨b, j, none⟩ = some v) : ∃ o, W.heap[b]? = some o ∧ o.isCells = true := by
  cases h : W.heap[b]? with
  | none => simp [World.cell?, h] at hc
  | some o =>
    refine ⟨o, rfl, ?_⟩
    cases o <;> simp [World.cell?, h] at hc <;> rfl
theorem KpA.cell {W W' : World} (h : KpA W W') {b j : Nat} {v : Value} (hc : W.cell? ⟨b, j, none⟩ = some v) : W'.cell? ⟨b, j, none⟩ = some v := by
  obtain ⟨o, h1, h2⟩ := cell_cells hc
  have h3 := h b o h1 h2
  unfold World.cell? at hc ⊢
  rw [h1] at hc
  rw [h3]
  exact hc
theorem keepsO_below {w w' : World} (hb : Below w.heap.size w w') : KeepsOthers w w' := KeepsOthers.of_grownBy (row := none) (grownBy_below (grownBy_refl w none) hb) (fun j o e => by cases e)
end Go.Proofs.YtfbphoppgmganaaGreat

/-
  The library's Backward over a list of applications: what its function that takes a yield hands on; walks over the dump.
-/
namespace Go.Proofs.YtfbphoppgmganaaGreat
open Go.RowKit Go.Shelf
set_option linter.unusedVariables false
attribute [local go_sem] Oper.semAt_some

/-- an application whose number is one -/
abbrev NAV := { m : AV // (Lit.int .i64 m.id).wf = true }
theorem AVRow.kpa {W W' : World} {ao : Option Addr} {len : Nat} {l : List AV} (h : AVRow W ao len l) (k : KpA W W') : AVRow W' ao len l := by
  obtain ⟨h1, h2⟩ := h
  refine ⟨h1, ?_⟩
  rcases h2 with h2 | ⟨b, off, h3, h4⟩
  · exact .inl h2
  · exact .inr ⟨b, off, h3, fun i hi => let ⟨a, b, c⟩ := h4 i hi; ⟨k.cell a, k.cell b, k.cell c⟩⟩

set_option maxRecDepth 100000 in
set_option maxHeartbeats 4000000 in
theorem backA_some (n l Bs len cap : Nat) (ao : Option Addr) (ms : List AV) (J Jx : List (Int × NAV) → World → Prop)
    (hY : ∀ pre x W1, J pre W1 → pre.length < ms.length → YieldAt Fence.wide (n - 1) Tryz.prog l #[.int .i64 x.1, avv x.2.1] W1 fun e W' =>
      (e = .returned (.bool true) ∧ J (pre ++ [x]) W' ∧ KpA W1 W') ∨ (e = .returned (.bool false) ∧ Jx (pre ++ [x]) W'))
    (W : World) (hBs : W.cell? ⟨Bs, 0, none⟩ = some (.slice ao len cap)) (hg : AVRow W ao len ms) (hl : len ≤ 1048576) (hN : ∀ m ∈ ms, (Lit.int .i64 m.id).wf = true) (h0 : J [] W) :
    CallsIn Fence.wide n Tryz.prog 317 #[.func (.yield l) #[] #[], .pointer (some ⟨Bs, 0, none⟩)] W fun e W' => (∃ v, e = .returned v) ∧
      ((∃ ys : List (Int × NAV), Hid (ys.map (fun x : Int × NAV => x.2.1) = ms.reverse) ∧ J ys W') ∨ (∃ pre, Jx pre W')) := by
  have HY := hide hY
  have HBs := hide hBs
  have HG := hide hg
  have HLEN := hide hg.1
  have H0 := hide h0
  have HNN := hide hN
  clear hY hg h0 hN
  refine callsIn_of_wp Tryz.func317 rfl trivial ?_ rfl
  simp only [Tryz.ntmps317, List.size_toArray, List.length_cons, List.length_nil, Nat.reduceAdd, Nat.reduceSub, Array.replicate_succ, Array.replicate_zero, List.push_toArray, List.append_toArray, List.nil_append, List.cons_append]
  gi_wp2
  clear hBs
  gi_loopw [3] (fun i wr => ∃ (k : Nat) (pre : List (Int × NAV)), k ≤ len ∧ i = .int .i64 ((k : Int) - 1) ∧ Hid (pre.length + k = ms.length) ∧ Hid (pre.map (fun x : Int × NAV => x.2.1) = (ms.drop k).reverse) ∧ Hid (J pre wr) ∧ Hid (wr.cell? ⟨Bs, 0, none⟩ = some (.slice ao len cap)) ∧ Hid (AVRow wr ao len ms)) (fun i _ => (intOf i + 1).toNat)
  case atStart => exact ⟨len, [], Nat.le_refl _, by go_num, hide (by have := unhide HLEN; simp; omega), hide (by rw [List.drop_of_length_le (by have := unhide HLEN; omega)]; rfl), H0, HBs, HG⟩
  case round =>
    obtain ⟨k, pre, hk, rfl, HL, HM, HJ, HB, HGr⟩ := hrel
    cases k with
    | zero =>
      gi_wp2
      go_end0
      exact ⟨⟨_, rfl⟩, .inl ⟨pre, hide (by rw [unhide HM]; rfl), unhide HJ⟩⟩
    | succ j =>
      have hj : j < len := by omega
      obtain ⟨b, off, rfl, hq⟩ := (unhide HGr).at hj
      have hjm : j < ms.length := by have := unhide HLEN; omega
      obtain ⟨c0, c1, c2⟩ := hq hjm
      have hbox := unhide HB
      have hel := unhide HNN ms[j] (List.getElem_mem _)
      obtain ⟨fn, tmps, assign, body, hy, hR⟩ := unhide HY pre ((j : Int), ⟨ms[j], hel⟩) wr (unhide HJ) (by have := unhide HL; omega)
      have HRR := hide hR
      have HM2 := hide (show (pre ++ [((j : Int), (⟨ms[j], hel⟩ : NAV))]).map (fun x : Int × NAV => x.2.1) = (ms.drop j).reverse by rw [List.map_append, unhide HM, List.drop_eq_getElem_cons hjm, List.reverse_cons]; rfl)
      have hij : ((j + 1 : Nat) : Int) - 1 = (j : Int) := by omega
      obtain ⟨y, hyy⟩ : ∃ y : NAV, (⟨ms[j], hel⟩ : NAV) = y := ⟨_, rfl⟩
      have hy1 : ms[j] = y.1 := by rw [← hyy]
      rw [hyy] at hy HRR HM2
      rw [hy1] at c0 c1 c2
      obtain ⟨⟨id, qu, zo, zl, zc⟩, hyn⟩ := y
      simp only at hy c0 c1 c2
      rw [hij]
      have j0 : (0 : Int) ≤ j := by omega
      have j1 : (j : Int) < len := by omega
      clear hR hyy hy1 hij HM hq hjm hel
      gi_wp2
      refine ⟨(by intro e; cases e), ?_⟩
      refine (unhide HRR).mono ?_
      rintro e W3 (⟨rfl, hJ3, hk3⟩ | ⟨rfl, hJx3⟩)
      · have HB3 := hide (hk3.cell (unhide HB))
        have HG3 := hide ((unhide HGr).kpa hk3)
        have HJ3 := hide hJ3
        clear hk3 hJ3 hbox hy HRR c0 c1 c2
        gi_wp2
        go_roundw
        case rel => exact ⟨j, pre ++ [((j : Int), ⟨⟨id, qu, zo, zl, zc⟩, hyn⟩)], by omega, by go_num, hide (by have := unhide HL; simp; omega), HM2, HJ3, HB3, HG3⟩
        case measure => simp [intOf]
      · gi_wp2
        refine bodyPost_ret (results_none rfl _ _ _) rfl ?_
        exact ⟨⟨_, rfl⟩, .inr ⟨_, hJx3⟩⟩

theorem backA_stops (n Bs len cap : Nat) (ao : Option Addr) (ms : List AV) (w : World) (hBs : w.cell? ⟨Bs, 0, none⟩ = some (.slice ao len cap)) (hrow : AVRow w ao len ms) (hl : len ≤ 1048576) (hN : ∀ m ∈ ms, (Lit.int .i64 m.id).wf = true) :
    SeqStopsK Fence.wide n Tryz.prog 317 #[.pointer (some ⟨Bs, 0, none⟩)] (fun x : Int × NAV => #[.int .i64 x.1, avv x.2.1]) KpA (fun ys => Hid (ys.map (fun x : Int × NAV => x.2.1) = ms.reverse)) (fun _ => True) ms.length w := by
  intro l J Jx W hW hJ hJx hY h0
  refine (backA_some n l Bs len cap ao ms J Jx hY W ((hW.cell (cell_lt hBs)).trans hBs) (hrow.below hW) hl hN h0).mono ?_
  rintro e W' ⟨he, ⟨ys, h1, h2⟩ | ⟨pre, h2⟩⟩
  · exact ⟨he, .inl ⟨ys, h1, h2⟩⟩
  · exact ⟨he, .inr ⟨pre, trivial, h2⟩⟩

set_option maxHeartbeats 1000000 in
theorem backA_any (v : Value) (w : World) (hv : v.oneCell' = true) :
    Calls Tryz.prog 268 #[v] w fun e w' => e = .returned (.func (.func 317) #[] #[.pointer (some ⟨w.heap.size, 0, none⟩)]) ∧ w.alloc (.cells #[v] 36) = w' := by
  have hmf : ∀ (fn : Fn) (first cap : Array Value) (w : World), (Instr.makeFunc fn first cap).run Tryz.prog w = .ok (.func fn first cap) w := fun _ _ _ _ => rfl
  go_enter Tryz.func268, Tryz.ntmps268
  go_wp2
  go_ret
  exact ⟨rfl, rfl⟩

set_option maxHeartbeats 1000000 in
theorem appKey_any (m : AV) (w : World) :
    Calls Tryz.prog 269 #[avv m] w fun e w' => e = .returned (.agg #[.string (bs []), .int .i64 m.id]) ∧ Below w.heap.size w w' := by
  obtain ⟨id, qu, zo, zl, zc⟩ := m
  go_enter Tryz.func269, Tryz.ntmps269
  go_wp2
  refine bodyPost_ret (v := .agg #[.string (bs []), .int .i64 id]) (by simp [results, Tryz.results269, go_sem]; rfl) rfl ⟨rfl, ?_⟩
  repeat (first | exact Below.refl _ _ | refine below_al ?_ _ | refine Below.drew ?_ | refine below_sc ?_ _ _ _ (by omega))
end Go.Proofs.YtfbphoppgmganaaGreat

/-
  The map of applications: what the program's apps answers; a walk over the dump.
-/
namespace Go.Proofs.YtfbphoppgmganaaGreat
open Go.RowKit Go.Shelf Go.Maps
set_option linter.unusedVariables false
attribute [local go_sem] Oper.semAt_some

/-- behind the box, the map and its variable -/
def apmW (w : World) (c : Array Value) : World := ((w.alloc (.cells c 40)).alloc (.map #[] 0)).alloc (.cells #[.map (some (w.heap.size + 1))] 250)
theorem apmW_size (w : World) (c : Array Value) : (apmW w c).heap.size = w.heap.size + 1 + 1 + 1 := by simp only [apmW, al_size]
theorem apmW_below (w : World) (c : Array Value) : Below w.heap.size w (apmW w c) := below_al (below_al (below_al (Below.refl _ w) _) _) _
theorem apmW_own (w : World) (c : Array Value) : (apmW w c).ownsMap Tryz.prog 191 appElem (w.heap.size + 1) 0 (.map []) := by
  have := (World.ownsMap_made (w.alloc (.cells c 40)) Tryz.prog 191 appElem).alloc (.cells #[.map (some (w.heap.size + 1))] 250)
  rw [al_size] at this
  exact this
theorem apmW_var (w : World) (c : Array Value) : Blk (apmW w c) (w.heap.size + 1 + 1) #[.map (some (w.heap.size + 1))] 250 := by
  have := blk_new ((w.alloc (.cells c 40)).alloc (.map #[] 0)) #[.map (some (w.heap.size + 1))] 250
  rw [al_size, al_size] at this
  exact this
/-- the map holds the machines that were gone by, the variable holds the map -/
def ApmInv (w : World) (l : List AV) (W : World) : Prop := (∃ D, W.ownsMap Tryz.prog 191 appElem (w.heap.size + 1) l.length D ∧ KnownA l allA D) ∧ Blk W (w.heap.size + 1 + 1) #[.map (some (w.heap.size + 1))] 250
theorem ApmInv.grown {w W W' : World} {l : List AV} {row : Option Nat} (h : ApmInv w l W) (hg : W.grownBy W' row) (hr : ∀ r, row = some r → w.heap.size + 1 + 1 < r) : ApmInv w l W' := by
  obtain ⟨⟨D, h1, h2⟩, h3⟩ := h
  exact ⟨⟨D, h1.kept hg (fun e => by have := hr _ e.symm; omega), h2⟩, (hg.block _ h3.lt (fun e => by have := hr _ e.symm; omega)).trans h3⟩
theorem ApmInv.below {w W W' : World} {l : List AV} (h : ApmInv w l W) (hb : Below W.heap.size W W') : ApmInv w l W' := h.grown (grownBy_below (grownBy_refl W none) hb) (fun r e => by cases e)

set_option maxRecDepth 100000 in
set_option maxHeartbeats 4000000 in
theorem apps_any (x : Sls) (s : St) (hs : List AV) (w : World) (h : AVRow w x.aa x.al hs) (hl : x.al ≤ 1048576) (hn : ∀ m ∈ hs, (Lit.int .i64 m.id).wf = true) :
    Calls Tryz.prog 208 #[sv x s] w fun e w' => e = .returned (.map (some (w.heap.size + 1))) ∧ ApmInv w hs w' ∧ Below w.heap.size w w' := by
  obtain ⟨qa, ql, qc, aa, al, ac, ma, ml, mc, ca, cl, cc⟩ := x
  obtain ⟨qs, clock, epoch, next, serial, apps, ms, cs⟩ := s
  simp only at h hl
  have HR := hide h
  have HL := hide h.1
  have HN := hide hn
  have hmx : Tryz.prog.follows .mixedOrders = true := by kernel_rfl
  have hmm := fun (t : TypeId) (wx : World) => run_makeMap (P := Tryz.prog) t wx
  clear h hn
  refine (callsIn_wide (n := 3)).1 ?_
  refine callsIn_of_wp_marks Tryz.func208 rfl trivial ?_ rfl
  simp only [Tryz.ntmps208, List.size_toArray, List.length_cons, List.length_nil, Nat.reduceAdd, Nat.reduceSub, Array.replicate_succ, Array.replicate_zero, List.push_toArray, List.append_toArray, List.nil_append, List.cons_append]
  gi_wp2_with fail
  first | refine ⟨trivial, ?_⟩ | skip
  first | refine ⟨(by intro e; cases e), ?_⟩ | skip
  refine (callsIn_wide.2 (backA_any (.slice aa al ac) _ rfl)).mono ?_
  rintro e w4 ⟨rfl, rfl⟩
  gi_wp2
  have hsz0 := al_size (apmW w (svc ⟨qa, ql, qc, aa, al, ac, ma, ml, mc, ca, cl, cc⟩ ⟨qs, clock, epoch, next, serial, apps, ms, cs⟩)) (.cells #[.slice aa al ac] 36)
  rw [apmW_size] at hsz0
  have hB0 := below_al (apmW_below w (svc ⟨qa, ql, qc, aa, al, ac, ma, ml, mc, ca, cl, cc⟩ ⟨qs, clock, epoch, next, serial, apps, ms, cs⟩)) (.cells #[.slice aa al ac] 36)
  have hI0 := ApmInv.below (w := w) (l := []) ⟨⟨_, apmW_own w (svc ⟨qa, ql, qc, aa, al, ac, ma, ml, mc, ca, cl, cc⟩ ⟨qs, clock, epoch, next, serial, apps, ms, cs⟩), knownA_empty⟩, apmW_var w _⟩ (below_al (Below.refl _ _) (.cells #[.slice aa al ac] 36))
  have hBs := (blk_new (apmW w (svc ⟨qa, ql, qc, aa, al, ac, ma, ml, mc, ca, cl, cc⟩ ⟨qs, clock, epoch, next, serial, apps, ms, cs⟩)) #[.slice aa al ac] 36).at 0
  rw [apmW_size] at hBs
  obtain ⟨W0, hW0⟩ : ∃ W0, (apmW w (svc ⟨qa, ql, qc, aa, al, ac, ma, ml, mc, ca, cl, cc⟩ ⟨qs, clock, epoch, next, serial, apps, ms, cs⟩)).alloc (.cells #[.slice aa al ac] 36) = W0 := ⟨_, rfl⟩
  rw [hW0] at hsz0 hB0 hI0 hBs
  have HC := hide (backA_stops (3 - 1) (w.heap.size + 1 + 1 + 1) al ac aa hs W0 hBs ((unhide HR).below hB0) hl (unhide HN))
  show Code.wpIn _ _ _ _ _ _ ((apmW w (svc ⟨qa, ql, qc, aa, al, ac, ma, ml, mc, ca, cl, cc⟩ ⟨qs, clock, epoch, next, serial, apps, ms, cs⟩)).alloc (.cells #[.slice aa al ac] 36))
  rw [hW0]
  clear hW0 hBs
  refine wpIn_rangeFunc_ownH rfl (by omega) (gf := 317) (lb := #[.pointer (some ⟨w.heap.size + 1 + 1 + 1, 0, none⟩)]) rfl trivial (enters_of Tryz.func317 (by kernel_rfl) rfl)
    (unhide HC) kpa_t kpa_b (Below.refl _ _) (fun _ => rfl)
    (fun pre W => ApmInv w ((pre.map (fun x : Int × NAV => x.2.1)).reverse) W ∧ Below w.heap.size w W)
    (fun _ _ _ => False)
    (OwnFrom.and (fun s X Y row hs hg hr => ApmInv.grown hs hg (fun r e => by have := (hr r e).1; omega)) (ownFrom_below (Nat.le_refl _) (by omega)))
    (fun _ _ _ _ _ hs _ _ => hs)
    ⟨hI0, hB0⟩
    (fun x a' W => ∃ Bx, w.heap.size + 1 + 1 < Bx ∧ Blk W Bx #[.int .i64 x.2.1.id, .string (bs x.2.1.queue), .slice x.2.1.ao x.2.1.len x.2.1.cap] 105 ∧ a' = { tmps := #[sv ⟨qa, ql, qc, aa, al, ac, ma, ml, mc, ca, cl, cc⟩ ⟨qs, clock, epoch, next, serial, apps, ms, cs⟩, .pointer (some ⟨w.heap.size, 0, none⟩), .map none, .pointer (some ⟨w.heap.size + 1 + 1, 0, none⟩), undef, .pointer (some ⟨Bx, 0, none⟩), .map (some (w.heap.size + 1)), .pointer (some ⟨w.heap.size, 5, none⟩), .slice aa al ac, .func (.func 317) #[] #[.pointer (some ⟨w.heap.size + 1 + 1 + 1, 0, none⟩)], .int .i64 x.1, avv x.2.1, undef, undef, undef, undef, undef], defers := [] })
    (fun x a' _ X Y row hs hg hr => by
      obtain ⟨Bx, h1, h2, h3⟩ := hs
      refine ⟨Bx, h1, (hg.block Bx h2.lt (fun e => ?_)).trans h2, h3⟩
      obtain ⟨_, o, ho, hc⟩ := hr Bx e.symm
      rw [show X.heap[Bx]? = _ from h2] at ho
      cases ho
      cases hc)
    ?assign ?body ?done ?stop
  case assign =>
    rintro lp pre ⟨i, ⟨⟨id, qu, zo, zl, zc⟩, hnm⟩⟩ W K ⟨hI, hB⟩ hK
    have hlt := hI.2.lt
    gi_wp2
    exact hK _ _ ((KeepsOthers.alloc _ _).from _) (kpa_below (below_al (Below.refl _ W) _)) ⟨hI.below (below_al (Below.refl _ W) _), below_al hB _⟩ ⟨W.heap.size, hlt, blk_new W _ _, rfl⟩
  case body =>
    rintro lp pre ⟨i, ⟨⟨id, qu, zo, zl, zc⟩, hnm⟩⟩ a' W hlp _ ⟨hI, hB⟩ ⟨Bx, hBx, hX, rfl⟩ hlt
    have HI := hide hI
    have HX := hide hX
    have HB := hide hB
    have x0 := hX.at 0
    have x1 := hX.at 1
    have x2 := hX.at 2
    have v0 := hI.2.at 0
    simp at x0 x1 x2 v0
    have hpl : pre.length < 1048576 := by have := unhide HL; omega
    clear hI hX hB
    obtain ⟨kl, hkey⟩ := keyKey (nm := []) (k := id) (by decide) hnm
    have HKEY := hide hkey
    clear hkey
    gi_wp2_with fail
    gi_region_with_o (first | (first | refine ⟨trivial, ?_⟩ | skip); (first | refine ⟨(by intro e; cases e), ?_⟩ | skip); refine (CallsIn.inRound lp (callsIn_wide.2 (appKey_any ⟨id, qu, zo, zl, zc⟩ _))).mono ?_; rintro e wc ⟨rfl, hbc⟩; have HW3 := hide (below_on (Below.refl _ W).drew hbc); have y0 := ((unhide HX).below (unhide HW3)).at 0; have y1 := ((unhide HX).below (unhide HW3)).at 1; have y2 := ((unhide HX).below (unhide HW3)).at 2; have u0 := ((unhide HI).below (unhide HW3)).2.at 0; simp at y0 y1 y2 u0; obtain ⟨D, hown, hk⟩ := ((unhide HI).below (unhide HW3)).1; obtain ⟨w4, hrun, hown2, hgrow2⟩ := hown.update keyLaw Tryz.underlying250 (by unfold maxLen; simp; omega) (unhide HKEY) (appElem_mk ⟨id, qu, zo, zl, zc⟩); have HFIN := hide (And.intro hown2 (And.intro hgrow2 (KnownA.put (m := ⟨id, qu, zo, zl, zc⟩) hk hown.isMap (unhide HKEY)))); clear hown2 hgrow2 hk hown hbc)
    all_goals gi_wp2
    all_goals
      obtain ⟨f1, f2, f3⟩ := unhide HFIN
      have hbelow := (unhide HW3)
      have hv4 := (f2.block _ ((unhide HI).below hbelow).2.lt (by simp)).trans ((unhide HI).below hbelow).2
      have hmi : ApmInv w (⟨id, qu, zo, zl, zc⟩ :: (pre.map (fun x : Int × NAV => x.2.1)).reverse) w4 := ⟨⟨_, f1, f3⟩, hv4⟩
      refine ⟨((keepsO_below hbelow).from _).trans (KeepsFrom.of_grownBy f2 (fun j e => by cases e; omega)), kpa_t (kpa_below hbelow) (fun k o ho hc => (f2.block k (lt_of_block ho) (fun e => ?_)).trans ho), by simpa using hmi, ?_⟩
      · obtain ⟨D', hD', _⟩ := ((unhide HI).below hbelow).1
        obtain ⟨es, ck, hm', _⟩ := hD'
        obtain rfl : k = w.heap.size + 1 := by simpa using e
        rw [hm'] at ho
        cases ho
        cases hc
      · exact ((unhide HB).trans (hbelow.mono (unhide HB).size)).grown f2 (by have := (unhide HB).size; have := hbelow.size; omega) (fun k e => by cases e; omega)
  case done =>
    rintro D ys W hD hys ⟨hI, hB⟩ hK
    rw [unhide hys, List.reverse_reverse] at hI
    have v0 := hI.2.at 0
    simp at v0
    have HI := hide hI
    have HB := hide hB
    clear hI hB
    gi_wp2
    refine ⟨by simp, .inl ⟨_, _, rfl, run_takeDeferred hK, ?_⟩⟩
    exact ⟨_, results_tmp rfl _ _ _, rfl, (unhide HI).grown (grownBy_putObj' W D _) (fun r e => by cases e; omega), (unhide HB).trans (belowK_b (w := w) (Nat.le_refl _) W D _ _ (by omega) hK rfl rfl)⟩
  case stop =>
    rintro D c pre W _ _ h _
    exact h.elim
/-- the same, where the map stands left open -/
theorem apps_ex (x : Sls) (s : St) (hs : List AV) (w : World) (h : AVRow w x.aa x.al hs) (hl : x.al ≤ 1048576) (hn : ∀ m ∈ hs, (Lit.int .i64 m.id).wf = true) :
    Calls Tryz.prog 208 #[sv x s] w fun e w' => ∃ bm, e = .returned (.map (some bm)) ∧ (w.heap.size ≤ bm ∧ ∃ D, w'.ownsMap Tryz.prog 191 appElem bm hs.length D ∧ KnownA hs allA D) ∧ Below w.heap.size w w' :=
  (apps_any x s hs w h hl hn).mono fun e w' ⟨h1, h2, h3⟩ => ⟨_, h1, ⟨by omega, h2.1⟩, h3⟩
end Go.Proofs.YtfbphoppgmganaaGreat

/-
  Whether the map of applications has a container's: what the program's ofApp and has answer; walks over the dump.
-/
namespace Go.Proofs.YtfbphoppgmganaaGreat
open Go.RowKit Go.Maps
set_option linter.unusedVariables false

def hasB (hs : List AV) (keep : AV → Bool) (q : Con) : Bool := optB (findA q.app hs) keep
set_option maxHeartbeats 1000000 in
theorem ofApp_any (q : Con) (w : World) :
    Calls Tryz.prog 236 #[conv q] w fun e w' => e = .returned (.agg #[.string (bs []), .int .i64 q.app]) ∧ Below w.heap.size w w' := by
  obtain ⟨id, ap, nd, me, cp⟩ := q
  go_enter Tryz.func236, Tryz.ntmps236
  go_wp2
  refine bodyPost_ret (v := .agg #[.string (bs []), .int .i64 ap]) (by simp [results, Tryz.results236, go_sem]; rfl) rfl ⟨rfl, ?_⟩
  repeat (first | exact Below.refl _ _ | refine below_al ?_ _ | refine Below.drew ?_ | refine below_sc ?_ _ _ _ (by omega))
theorem ownsMap_below {w w' : World} {k : TypeId} {R : Value → Option (DataW Unit × List MemPlace)} {b n : Nat} {D : DataW Unit} (h : w.ownsMap Tryz.prog k R b n D) (hb : Below w.heap.size w w') : w'.ownsMap Tryz.prog k R b n D := h.kept (grownBy_below (grownBy_refl w none) hb) (by simp)

set_option maxRecDepth 100000 in
set_option maxHeartbeats 2000000 in
theorem has_any (bm n : Nat) (D : DataW Unit) (hs : List AV) (keep : AV → Bool) (q : Con) (w : World) (hown : w.ownsMap Tryz.prog 191 appElem bm n D) (hk : KnownA hs (fun _ v => keep v) D) (hwf : (Lit.int .i64 q.app).wf = true) :
    Calls Tryz.prog 212 #[.map (some bm), conv q] w fun e w' => e = .returned (.bool (hasB hs keep q)) ∧ Below w.heap.size w w' := by
  obtain ⟨kl, hkey⟩ := keyKey (nm := []) (k := q.app) (by decide) hwf
  have HL := hide (fun wx (hb : Below w.heap.size w wx) => lookA (ownsMap_below hown hb) hk hkey)
  obtain ⟨o, ho⟩ : ∃ o, hasB hs keep q = o := ⟨_, rfl⟩
  have HO := hide (show optB (findA q.app hs) keep = o from ho)
  rw [ho]
  clear ho hkey hown hk hwf
  have CO := hide (fun wx => ofApp_any q wx)
  obtain ⟨id, ap, nd, me, cp⟩ := q
  simp only at HL HO
  have HB0 := hide (below_al (Below.refl _ w) (.cells #[.int .i64 id, .int .i64 ap, .string (bs nd), .int .i64 me, .int .i64 cp] 32))
  go_enter Tryz.func212, Tryz.ntmps212
  go_wp2_with fail
  refine (unhide CO _).mono ?_
  rintro e w1 ⟨rfl, hb⟩
  have HB1 := hide (below_on (unhide HB0) hb)
  obtain ⟨v, hlk, _, _⟩ := unhide HL _ (unhide HB1)
  rw [show optB (findA ap hs) (fun v => keep v) = o from unhide HO] at hlk
  obtain ⟨v1, v2, v3, v4, v5⟩ := v
  clear hb HB0 HL HO
  go_wp2
  go_ret
  refine ⟨rfl, ?_⟩
  repeat (first | exact unhide HB1 | refine below_al ?_ _ | refine Below.drew ?_ | refine below_sc ?_ _ _ _ (by omega))
end Go.Proofs.YtfbphoppgmganaaGreat

/-
  Numbers of applications and of containers' applications are those of an int.
-/
namespace Go.Proofs.YtfbphoppgmganaaGreat
open Go.RowKit Go.Maps
set_option linter.unusedVariables false

/-- numbers that are numbers -/
def WfSt (s : St) : Prop := (∀ a ∈ s.apps, (Lit.int .i64 a.id).wf = true) ∧ (∀ c ∈ s.cs, (Lit.int .i64 c.app).wf = true)
theorem StFit.wfs {x : Sls} {s : St} (h : StFit x s) : WfSt s := ⟨fun a ha => (h.2.1.2 a ha).2.1, fun c hc => (h.2.2.2.1.2 c hc).2.2.1⟩
theorem heads_wf {w : World} {hs : List AV} {l : List Appl} (hh : Heads w hs l) (h : ∀ a ∈ l, (Lit.int .i64 a.id).wf = true) : ∀ v ∈ hs, (Lit.int .i64 v.id).wf = true := fun v hv => by
  obtain ⟨i, hi, rfl⟩ := List.mem_iff_getElem.1 hv
  have hi' : i < l.length := by rw [← hh.1]; exact hi
  rw [(hh.2 i hi hi').1]
  exact h _ (List.getElem_mem _)
end Go.Proofs.YtfbphoppgmganaaGreat
