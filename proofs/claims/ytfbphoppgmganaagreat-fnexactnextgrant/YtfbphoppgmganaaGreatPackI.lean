/-
  Several texts of this claim in one: GatherI, BackI, UpM, ShareI (pack.py put them together); each says in its own remark what is proved.
-/
import Derived.Test.YtfbphoppgmganaaGreatPackH
import Derived.Maps.AppendAt
import Derived.Test.YtfbphoppgmganaaGreatPackG
import Derived.Test.YtfbphoppgmganaaGreatPackF
import Derived.Test.YtfbphoppgmganaaGreatPackA
/-
  What a round of a range over a function gathers in a list: one element more.
-/
namespace Go.Proofs.YtfbphoppgmganaaGreat
open Go.RowKit Go.Shelf
set_option linter.unusedVariables false

/-- a queue's variable is no row of another type -/
theorem qbox_row {w w1 : World} {k : Nat} {q : Q} (h : QBox w k q) {base size n e : Nat} {v : Value} {xs : List Value} (hr : w.ownsRow base e size v n xs) (he : e ≠ 160) (hg : w.grownBy w1 v.ownBlock) : QBox w1 k q := by
  refine (hg.block k h.lt ?_).trans h
  rcases hr.2 with ⟨rfl, _⟩ | ⟨g, cap, cur, rfl, _, hgb, _⟩
  · simp [Value.ownBlock]
  · intro e'
    obtain rfl : k = g := by simpa [Value.ownBlock] using e'
    have := (show w.heap[k]? = _ from h).symm.trans hgb
    simp [qobj] at this
    exact he this.2.symm
theorem qbox_store {w : World} {k B t : Nat} {q : Q} {v u : Value} (h : QBox w k q) (hv : Go.Boxed w B t v) : QBox (w.setCell ⟨B, 0, none⟩ u) k q := by
  refine ((grownBy_setCell' w B u).block k h.lt ?_).trans h
  intro e'
  obtain rfl : k = B := by simpa using e'
  have := (show w.heap[k]? = _ from h).symm.trans hv
  simp [qobj] at this
theorem boxed_below {w w' : World} {B t : Nat} {v : Value} (h : Go.Boxed w B t v) (hb : Below w.heap.size w w') : Go.Boxed w' B t v := (hb.block B h.lt).trans h
theorem keeps_below {w w' : World} (hb : Below w.heap.size w w') : KeepsOthers w w' := KeepsOthers.of_grownBy (row := none) (grownBy_below (grownBy_refl w none) hb) (fun j o e => by cases e)

theorem row_below {w w' : World} {B e size n : Nat} {v : Value} {xs : List Value} (h : w.ownsRow B e size v n xs) (hb : Below w.heap.size w w') : w'.ownsRow B e size v n xs :=
  h.kept (grownBy_below (grownBy_refl w none) hb) (by by_cases e : v.ownBlock = none; exact .inl e; exact .inr e)
theorem gather_step (T E : TypeId) (z : Value) (bytes : Nat) (i0 : TypeInfo) (hu : Tryz.prog.underlying T = some (.slice E)) (hi : Tryz.prog.info? E = some i0) (hz0 : i0.zero = some z) (hz1 : i0.size = 1) (hz2 : i0.bytes = bytes) (hzc : z.cells.size = 1) (hTE : T ≠ E) (hEQ : E ≠ 160) (hby : bytes ≤ 16)
    {base B n : Nat} {v : Value} {xs : List Value} {w3 : World} (hv : Go.Boxed w3 B T v) (hr : w3.ownsRow base E 1 v n xs) (hn : n ≤ 1048576) (hbase : base ≤ w3.heap.size) (hB : base ≤ B) (y : Value) (hy : y.oneCell' = true) :
    ∃ g cp w4, (Builtin.append_ #[T, T] T #[v, .slice (some ⟨w3.heap.size, 0, none⟩) 1 1]).run Tryz.prog (w3.alloc (.cells #[y] E)) = .ok (.slice (some ⟨g, 0, none⟩) (n + 1) cp) w4 ∧ w4.cell? ⟨B, 0, none⟩ = some v ∧ w4.frozen? ⟨B, 0, none⟩ = false
      ∧ Hid (Go.Boxed (w4.setCell ⟨B, 0, none⟩ (.slice (some ⟨g, 0, none⟩) (n + 1) cp)) B T (.slice (some ⟨g, 0, none⟩) (n + 1) cp) ∧ (w4.setCell ⟨B, 0, none⟩ (.slice (some ⟨g, 0, none⟩) (n + 1) cp)).ownsRow base E 1 (.slice (some ⟨g, 0, none⟩) (n + 1) cp) (n + 1) (xs ++ [y])
        ∧ KeepsOthers w3 (w4.setCell ⟨B, 0, none⟩ (.slice (some ⟨g, 0, none⟩) (n + 1) cp)) ∧ Below base w3 (w4.setCell ⟨B, 0, none⟩ (.slice (some ⟨g, 0, none⟩) (n + 1) cp)) ∧ ∀ k q, QBox w3 k q → QBox (w4.setCell ⟨B, 0, none⟩ (.slice (some ⟨g, 0, none⟩) (n + 1) cp)) k q) := by
  have h16 : (n + 1) * bytes ≤ 140737488355328 := by
    have : (n + 1) * bytes ≤ 1048577 * 16 := Nat.mul_le_mul (by omega) hby
    omega
  obtain ⟨v', w4, hrun, hown', hgrow, _⟩ := run_append_own (P := Tryz.prog) (w3.alloc (.cells #[y] E)) base T T E i0 z 1 bytes hu hi hz0 hz1 hz2 hzc (by decide) v n xs (hr.alloc _) ⟨w3.heap.size, 0, none⟩ 1 1 [y] rfl
    (by intro j u hj; match j, hj with | 0, hj => simp at hj; subst hj; simp [Addr.add]) (by intro u hu; simp at hu; subst hu; exact hy) (by unfold maxLen; omega) h16 (by simp; omega)
  obtain ⟨g, cp, rfl⟩ := ownsRow_succ hown'
  obtain ⟨hv1, hv2, hr2, hk2, hb2⟩ := hv.appended hTE hr hbase hB hown' hgrow
  refine ⟨g, cp, w4, hrun, hv1.cell, hv1.frozen, hide ⟨hv2, hr2, hk2, hb2, fun k q hq => ?_⟩⟩
  have h1 : QBox (w3.alloc (.cells #[y] E)) k q := hq.below (below_al (Below.refl _ w3) _)
  exact qbox_store (qbox_row h1 (hr.alloc _) hEQ hgrow) hv1
end Go.Proofs.YtfbphoppgmganaaGreat

/-
  The library's Backward over a list of numbers: what its function that takes a yield hands on; walks over the dump.
-/
namespace Go.Proofs.YtfbphoppgmganaaGreat
open Go.RowKit Go.Shelf
set_option linter.unusedVariables false
attribute [local go_sem] Oper.semAt_some

abbrev ints (st : List Int) : List Value := st.map (Value.int .i64)
/-- what a round that goes on keeps: every row of cells but the one at block p -/
def KpC (p : Nat) (W W' : World) : Prop := ∀ k o, k ≠ p → W.heap[k]? = some o → o.isCells = true → W'.heap[k]? = some o
theorem kpc_t {p : Nat} {A B C : World} (h : KpC p A B) (k : KpC p B C) : KpC p A C := fun i o hi ho hc => k i o hi (h i o hi ho hc) hc
theorem kpc_b {p : Nat} {w : World} (W : World) (l : Nat) (o o' : Obj) (hl : w.heap.size ≤ l) (h : W.heap[l]? = some o) (h1 : o.isCells = false) (h2 : o.isWalk = false) : KpC p W (W.putObj l o') := fun k q hk hq hc => by
  have hne : k ≠ l := fun e => by
    subst e
    rw [hq] at h
    cases h
    rw [h1] at hc
    cases hc
  exact ((grownBy_putObj' W l o').block k (lt_of_block hq) (by simp; omega)).trans hq
theorem kpc_below {p : Nat} {W W' : World} (h : Below W.heap.size W W') : KpC p W W' := fun k o _ ho _ => (h.block k (lt_of_block ho)).trans ho
theorem kpc_set {p : Nat} (W : World) (j : Nat) (u : Value) : KpC p W (W.setCell ⟨p, j, none⟩ u) := fun k o hk ho _ => (heap_setCell_other W ⟨p, j, none⟩ k u hk).trans ho

set_option maxRecDepth 100000 in
set_option maxHeartbeats 2000000 in
theorem back_nil (n l Bs : Nat) (J : List (Int × Int) → World → Prop) (W : World) (hBs : W.cell? ⟨Bs, 0, none⟩ = some (.slice none 0 0)) (h0 : J [] W) :
    CallsIn Fence.wide n Tryz.prog 321 #[.func (.yield l) #[] #[], .pointer (some ⟨Bs, 0, none⟩)] W fun e W' => (∃ v, e = .returned v) ∧ J [] W' := by
  refine callsIn_of_wp Tryz.func321 rfl trivial ?_ rfl
  simp only [Tryz.ntmps321, List.size_toArray, List.length_cons, List.length_nil, Nat.reduceAdd, Nat.reduceSub, Array.replicate_succ, Array.replicate_zero, List.push_toArray, List.append_toArray, List.nil_append, List.cons_append]
  gi_wp2
  gi_loopw [3] (fun i wr => i = .int .i64 (-1) ∧ J [] wr) (fun _ _ => 0)
  case atStart => exact ⟨by go_num, h0⟩
  case round =>
    obtain ⟨rfl, hJs⟩ := hrel
    gi_wp2
    go_end0
    exact ⟨⟨_, rfl⟩, hJs⟩

set_option maxRecDepth 100000 in
set_option maxHeartbeats 4000000 in
theorem back_some (n l Bs p g cap : Nat) (st : List Int) (J Jx : List (Int × Int) → World → Prop)
    (hY : ∀ pre x W1, J pre W1 → pre.length < st.length → YieldAt Fence.wide (n - 1) Tryz.prog l #[.int .i64 x.1, .int .i64 x.2] W1 fun e W' =>
      (e = .returned (.bool true) ∧ J (pre ++ [x]) W' ∧ KpC p W1 W') ∨ (e = .returned (.bool false) ∧ Jx (pre ++ [x]) W'))
    (W : World) (cur : Array Value) (hBs : Go.Boxed W Bs 53 (.slice (some ⟨g, 0, none⟩) st.length cap)) (hg : W.heap[g]? = some (.cells cur 3 (0, 0))) (hcur : ∀ j (h : j < st.length), cur[j]? = some (.int .i64 st[j])) (hp : Bs ≠ p) (hpg : g ≠ p) (hl : st.length ≤ 1048576) (h0 : J [] W) :
    CallsIn Fence.wide n Tryz.prog 321 #[.func (.yield l) #[] #[], .pointer (some ⟨Bs, 0, none⟩)] W fun e W' => (∃ v, e = .returned v) ∧
      ((∃ ys : List (Int × Int), Hid (ys.map Prod.snd = st.reverse) ∧ J ys W') ∨ (∃ pre, Jx pre W')) := by
  have HY := hide hY
  have HBs := hide hBs
  have HG := hide hg
  have HCU := hide hcur
  have H0 := hide h0
  have hc0 := hBs.cell
  clear hY hBs hg hcur h0
  refine callsIn_of_wp Tryz.func321 rfl trivial ?_ rfl
  simp only [Tryz.ntmps321, List.size_toArray, List.length_cons, List.length_nil, Nat.reduceAdd, Nat.reduceSub, Array.replicate_succ, Array.replicate_zero, List.push_toArray, List.append_toArray, List.nil_append, List.cons_append]
  gi_wp2
  clear hc0
  gi_loopw [3] (fun i wr => ∃ (k : Nat) (pre : List (Int × Int)), k ≤ st.length ∧ i = .int .i64 ((k : Int) - 1) ∧ Hid (pre.length + k = st.length) ∧ Hid (pre.map Prod.snd = (st.drop k).reverse) ∧ Hid (J pre wr) ∧ Hid (Go.Boxed wr Bs 53 (.slice (some ⟨g, 0, none⟩) st.length cap)) ∧ Hid (wr.heap[g]? = some (.cells cur 3 (0, 0)))) (fun i _ => (intOf i + 1).toNat)
  case atStart => exact ⟨st.length, [], Nat.le_refl _, by go_num, hide (by simp), hide (by simp), H0, HBs, HG⟩
  case round =>
    obtain ⟨k, pre, hk, rfl, HL, HM, HJ, HB, HGr⟩ := hrel
    cases k with
    | zero =>
      gi_wp2
      go_end0
      exact ⟨⟨_, rfl⟩, .inl ⟨pre, hide (by rw [unhide HM]; rfl), unhide HJ⟩⟩
    | succ j =>
      have hj : j < st.length := by omega
      have hcell : wr.cell? ⟨g, j, none⟩ = some (.int .i64 st[j]) := by
        have := unhide HCU j hj
        simp [World.cell?, unhide HGr, this]
      have hbox := (unhide HB).cell
      obtain ⟨fn, tmps, assign, body, hy, hR⟩ := unhide HY pre ((j : Int), st[j]) wr (unhide HJ) (by have := unhide HL; omega)
      have HRR := hide hR
      have HM2 := hide (show (pre ++ [((j : Int), st[j])]).map Prod.snd = (st.drop j).reverse by rw [List.map_append, unhide HM, List.drop_eq_getElem_cons hj, List.reverse_cons]; rfl)
      have hij : ((j + 1 : Nat) : Int) - 1 = (j : Int) := by omega
      obtain ⟨y, hyy⟩ : ∃ y, st[j] = y := ⟨_, rfl⟩
      rw [hyy] at hcell hy HRR HM2
      simp only at hy
      rw [hij]
      have j0 : (0 : Int) ≤ j := by omega
      have j1 : (j : Int) < st.length := by omega
      clear hR hyy hij HM
      gi_wp2
      refine ⟨(by intro e; cases e), ?_⟩
      refine (unhide HRR).mono ?_
      rintro e W3 (⟨rfl, hJ3, hk3⟩ | ⟨rfl, hJx3⟩)
      · have HB3 := hide (show Go.Boxed W3 Bs 53 (.slice (some ⟨g, 0, none⟩) st.length cap) from hk3 Bs _ hp (unhide HB) rfl)
        have HG3 := hide (hk3 g _ hpg (unhide HGr) rfl)
        have HJ3 := hide hJ3
        clear hk3 hJ3 hcell hbox hy HRR
        gi_wp2
        go_roundw
        case rel => exact ⟨j, pre ++ [((j : Int), y)], by omega, by go_num, hide (by have := unhide HL; simp; omega), HM2, HJ3, HB3, HG3⟩
        case measure => simp [intOf]
      · gi_wp2
        refine bodyPost_ret (results_none rfl _ _ _) rfl ?_
        exact ⟨⟨_, rfl⟩, .inr ⟨_, hJx3⟩⟩

theorem back_stops (n Bs p base : Nat) (v : Value) (st : List Int) (w : World) (hBs : Go.Boxed w Bs 53 v) (hrow : w.ownsRow base 3 1 v st.length (ints st)) (hp : Bs ≠ p) (hpv : some p ≠ v.ownBlock) (hl : st.length ≤ 1048576) :
    SeqStopsK Fence.wide n Tryz.prog 321 #[.pointer (some ⟨Bs, 0, none⟩)] (fun x : Int × Int => #[.int .i64 x.1, .int .i64 x.2]) (KpC p) (fun ys => Hid (ys.map Prod.snd = st.reverse)) (fun _ => True) st.length w := by
  intro l J Jx W hW hJ hJx hY h0
  have hB : Go.Boxed W Bs 53 v := boxed_below hBs hW
  have hr := row_below hrow hW
  rcases hr.2 with ⟨rfl, hz⟩ | ⟨g, cap, cur, rfl, _, hgb, hle, _, hsz, hx⟩
  · have : st = [] := List.eq_nil_of_length_eq_zero hz
    subst this
    exact (back_nil n l Bs J W hB.cell h0).mono fun e W' ⟨he, hj⟩ => ⟨he, .inl ⟨[], hide rfl, hj⟩⟩
  · refine (back_some n l Bs p g cap st J Jx hY W cur hB hgb (fun j h => ?_) hp (fun e => hpv (by simp [Value.ownBlock, e])) hl h0).mono ?_
    · have e1 : (cur.toList.take (st.length * 1))[j]? = some (.int .i64 st[j]) := by rw [hx]; simp [h]
      rw [List.getElem?_take_of_lt (by omega)] at e1
      simpa using e1
    · rintro e W' ⟨he, ⟨ys, h1, h2⟩ | ⟨pre, h2⟩⟩
      · exact ⟨he, .inl ⟨ys, h1, h2⟩⟩
      · exact ⟨he, .inr ⟨pre, trivial, h2⟩⟩

set_option maxHeartbeats 1000000 in
theorem back_any (v : Value) (w : World) (hv : v.oneCell' = true) :
    Calls Tryz.prog 274 #[v] w fun e w' => e = .returned (.func (.func 321) #[] #[.pointer (some ⟨w.heap.size, 0, none⟩)]) ∧ w.alloc (.cells #[v] 53) = w' := by
  have hmf : ∀ (fn : Fn) (first cap : Array Value) (w : World), (Instr.makeFunc fn first cap).run Tryz.prog w = .ok (.func fn first cap) w := fun _ _ _ _ => rfl
  go_enter Tryz.func274, Tryz.ntmps274
  go_wp2
  go_ret
  exact ⟨rfl, rfl⟩
end Go.Proofs.YtfbphoppgmganaaGreat

/-
  A queue, its parent, and so on, each looked for ahead of its kid: in plain words.
-/
namespace Go.Proofs.YtfbphoppgmganaaGreat
open Go.RowKit
set_option linter.unusedVariables false

/-- shares of shares, the last step first -/
def partS (t : Int × Int) : List Int → Int × Int
  | [] => t
  | n :: r => (shareM (partS t r).1 (partS t r).2 n, shareC (partS t r).1 (partS t r).2 n)
/-- the steps below the first one -/
def stepsOf (most : Bool) (u : List Q) : List Int := (u.takeWhile (fun q => decide (q.parent ≠ []))).map (fieldOf most)
theorem upAt_part {l : List Q} (h : queuesOk l = true) (most : Bool) (t : Int × Int) : ∀ (n : Nat) (p : Int), p < n → partS t (stepsOf most (upAt l n p)) = ofP l most t ((upAt l n p).map Q.name)
  | 0, _, _ => rfl
  | n + 1, p, hn => by
    rw [upAt]
    split
    · rename_i hp
      have hq := ok_at h p.toNat hp.2
      have ha := parent_ahead h hp.2
      simp only [qOk, Bool.and_eq_true, decide_eq_true_eq] at hq
      have hb : byName l l[p.toNat].name = l[p.toNat] := by rw [byName, hq.1.1.1.2, Int.toNat_natCast, List.getD_eq_getElem?_getD, List.getElem?_eq_getElem hp.2]; rfl
      by_cases hz : l[p.toNat].parent = []
      · have hm : place l l[p.toNat].parent = -1 := by rw [hz]; exact placeFrom_none (ok_named h)
        have hu : upAt l n (place l l[p.toNat].parent) = [] := by
          rw [hm]; cases n with
          | zero => rfl
          | succ n => rw [upAt, dif_neg (by omega)]
        rw [hu]
        simp [stepsOf, hz, partS, ofP]
      · have hi : p.toNat ≠ 0 := fun e => by
          have := hq.2
          rw [if_pos e] at this
          simp only [Bool.and_eq_true, decide_eq_true_eq] at this
          exact hz this.1
        have hpl := hq.2
        rw [if_neg hi] at hpl
        simp only [inB, decide_eq_true_eq] at hpl
        have ih := upAt_part h most t n (place l l[p.toNat].parent) (by omega)
        obtain ⟨r, hr⟩ : ∃ r, upAt l n (place l l[p.toNat].parent) = r := ⟨_, rfl⟩
        have hne : r ≠ [] := by
          rw [← hr]; cases n with
          | zero => omega
          | succ n => rw [upAt, dif_pos ⟨hpl.1, by omega⟩]; simp
        rw [hr] at ih ⊢
        cases r with
        | nil => exact absurd rfl hne
        | cons y r =>
          rw [List.map_cons, List.map_cons, ofP, hb]
          rw [List.map_cons] at ih
          rw [← ih]
          simp only [stepsOf, List.takeWhile_cons (a := l[p.toNat])]
          simp only [hz, ne_eq, not_false_eq_true, decide_true, if_true, List.map_cons, partS]
    · simp [stepsOf, partS, ofP]
theorem ups_part {l : List Q} (h : queuesOk l = true) (nm : List UInt8) (a b : Int) (most : Bool) (hp : 0 ≤ place l nm) (hr : resOk a b = true) : ofR l nm a b most = partS (a, b) (stepsOf most (ups l nm)) := by
  have hr' := place_range l nm
  have e := ups_path h nm
  have hne : path l nm ≠ [] := by
    rw [← e, ups_up h, upAt, dif_pos ⟨hp, by omega⟩]; simp
  rw [ofR, if_neg (by simp [hne, hr]), ← e, ups_up h, upAt_part h most (a, b) _ _ (by omega)]
theorem ofR_none1 {l : List Q} (h : queuesOk l = false) (nm : List UInt8) (a b : Int) (most : Bool) : ofR l nm a b most = (0, 0) := by rw [ofR, path, h]; simp
theorem ofR_none2 {l : List Q} {nm : List UInt8} (h : place l nm < 0) (a b : Int) (most : Bool) : ofR l nm a b most = (0, 0) := by
  have : path l nm = [] := by rw [path]; split; exact path_end h; rfl
  rw [ofR, this]; simp
theorem ofR_none3 (l : List Q) (nm : List UInt8) {a b : Int} (h : resOk a b = false) (most : Bool) : ofR l nm a b most = (0, 0) := by rw [ofR, h]; simp
end Go.Proofs.YtfbphoppgmganaaGreat

/-
  A share of an amount: what the program's Share answers; a walk over the dump.
-/
namespace Go.Proofs.YtfbphoppgmganaaGreat
open Go.RowKit
set_option linter.unusedVariables false

set_option maxRecDepth 100000 in
set_option maxHeartbeats 1000000 in
theorem implShare_any (a b n : Int) (w : World) :
    Calls Tryz.prog 275 #[rv a b, .int .i64 n] w fun e w' => e = .returned (rv (shareM a b n) (shareC a b n)) ∧ Below w.heap.size w w' := by
  cases h1 : resOk a b
  · rw [show shareM a b n = 0 by simp [shareM, shareOk, h1], show shareC a b n = 0 by simp [shareC, shareOk, h1]]
    go_enter Tryz.func275, Tryz.ntmps275
    go_wp2_with (go_at_call 228; refine (ok_any _ _ _).mono ?_; rintro e w' ⟨rfl, rfl⟩)
    refine bodyPost_ret (v := rv 0 0) (by simp [results, Tryz.results275, go_sem]) rfl ⟨rfl, ?_⟩
    repeat (first | exact Below.refl _ _ | refine below_al ?_ _ | refine Below.drew ?_ | refine below_sc ?_ _ _ _ (by omega))
  · cases h2 : inB n 0 10000
    · rw [show shareM a b n = 0 by simp [shareM, shareOk, h2], show shareC a b n = 0 by simp [shareC, shareOk, h2]]
      by_cases n0 : n < 0
      · go_enter Tryz.func275, Tryz.ntmps275
        go_wp2_with (go_at_call 228; refine (ok_any _ _ _).mono ?_; rintro e w' ⟨rfl, rfl⟩)
        refine bodyPost_ret (v := rv 0 0) (by simp [results, Tryz.results275, go_sem]) rfl ⟨rfl, ?_⟩
        repeat (first | exact Below.refl _ _ | refine below_al ?_ _ | refine Below.drew ?_ | refine below_sc ?_ _ _ _ (by omega))
      · have n1 : 10000 < n := by
          apply Int.not_le.1
          intro h
          have : inB n 0 10000 = true := inB_true (by omega) h
          rw [this] at h2; cases h2
        go_enter Tryz.func275, Tryz.ntmps275
        go_wp2_with (go_at_call 228; refine (ok_any _ _ _).mono ?_; rintro e w' ⟨rfl, rfl⟩)
        refine bodyPost_ret (v := rv 0 0) (by simp [results, Tryz.results275, go_sem]) rfl ⟨rfl, ?_⟩
        repeat (first | exact Below.refl _ _ | refine below_al ?_ _ | refine Below.drew ?_ | refine below_sc ?_ _ _ _ (by omega))
    · rw [show shareM a b n = a * n / 10000 by simp [shareM, shareOk, h1, h2], show shareC a b n = b * n / 10000 by simp [shareC, shareOk, h1, h2]]
      obtain ⟨q1, q2, q3, q4⟩ := resOk_bd h1
      have hn : 0 ≤ n ∧ n ≤ 10000 := by simpa [inB] using h2
      obtain ⟨m1, m2⟩ := mul_bd q1 q2 hn.1 hn.2
      obtain ⟨m3, m4⟩ := mul_bd q3 q4 hn.1 hn.2
      go_enter Tryz.func275, Tryz.ntmps275
      go_wp2_with (go_at_call 228; refine (ok_any _ _ _).mono ?_; rintro e w' ⟨rfl, rfl⟩)
      refine bodyPost_ret (v := rv (a * n / 10000) (b * n / 10000)) (by simp [results, Tryz.results275, go_sem]) rfl ⟨rfl, ?_⟩
      repeat (first | exact Below.refl _ _ | refine below_al ?_ _ | refine Below.drew ?_ | refine below_sc ?_ _ _ _ (by omega))
end Go.Proofs.YtfbphoppgmganaaGreat
