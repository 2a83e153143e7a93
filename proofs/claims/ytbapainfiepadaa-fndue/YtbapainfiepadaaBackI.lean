/-
  The library's Backward over a list of numbers: what its function that takes a yield hands on; walks over the dump.
-/
import Derived.Test.YtbapainfiepadaaGatherI
namespace Go.Proofs.Ytbapainfiepadaa
open Go.RowKit Go.Shelf
set_option linter.unusedVariables false
attribute [local go_sem] Oper.semAt_some

abbrev ints (st : List Int) : List Value := st.map (Value.int .i64)
/-- what a round that goes on keeps: every row of cells but the one at block p -/
def KpC (p : Nat) (W W' : World) : Prop := ∀ k o, k ≠ p → W.heap[k]? = some o → o.isCells = true → W'.heap[k]? = some o
theorem kpc_t {p : Nat} {A B C : World} (h : KpC p A B) (k : KpC p B C) : KpC p A C := fun i o hi ho hc => k i o hi (h i o hi ho hc) hc
theorem kpc_b {p : Nat} {w : World} (W : World) (l : Nat) (o o' : Obj) (hl : w.heap.size ≤ l) (h : W.heap[l]? = some o) (h1 : o.isCells = false) (h2 : o.isWalk = false) : KpC p W (W.putObj l o') := fun k q hk hq hc => by
  have hne : k ≠ l := fun e => by
    subst e
    rw [hq] at h
    cases h
    rw [h1] at hc
    cases hc
  exact ((grownBy_putObj' W l o').block k (lt_of_block hq) (by simp; omega)).trans hq
theorem kpc_below {p : Nat} {W W' : World} (h : Below W.heap.size W W') : KpC p W W' := fun k o _ ho _ => (h.block k (lt_of_block ho)).trans ho
theorem kpc_set {p : Nat} (W : World) (j : Nat) (u : Value) : KpC p W (W.setCell ⟨p, j, none⟩ u) := fun k o hk ho _ => (heap_setCell_other W ⟨p, j, none⟩ k u hk).trans ho

set_option maxRecDepth 100000 in
set_option maxHeartbeats 2000000 in
theorem back_nil (n l Bs : Nat) (J : List (Int × Int) → World → Prop) (W : World) (hBs : W.cell? ⟨Bs, 0, none⟩ = some (.slice none 0 0)) (h0 : J [] W) :
    CallsIn Fence.wide n Try.prog 77 #[.func (.yield l) #[] #[], .pointer (some ⟨Bs, 0, none⟩)] W fun e W' => (∃ v, e = .returned v) ∧ J [] W' := by
  refine callsIn_of_wp Try.func77 rfl trivial ?_ rfl
  simp only [Try.ntmps77, List.size_toArray, List.length_cons, List.length_nil, Nat.reduceAdd, Nat.reduceSub, Array.replicate_succ, Array.replicate_zero, List.push_toArray, List.append_toArray, List.nil_append, List.cons_append]
  gi_wp2
  gi_loopw [3] (fun i wr => i = .int .i64 (-1) ∧ J [] wr) (fun _ _ => 0)
  case atStart => exact ⟨by go_num, h0⟩
  case round =>
    obtain ⟨rfl, hJs⟩ := hrel
    gi_wp2
    go_end0
    exact ⟨⟨_, rfl⟩, hJs⟩

set_option maxRecDepth 100000 in
set_option maxHeartbeats 4000000 in
theorem back_some (n l Bs p g cap : Nat) (st : List Int) (J Jx : List (Int × Int) → World → Prop)
    (hY : ∀ pre x W1, J pre W1 → pre.length < st.length → YieldAt Fence.wide (n - 1) Try.prog l #[.int .i64 x.1, .int .i64 x.2] W1 fun e W' =>
      (e = .returned (.bool true) ∧ J (pre ++ [x]) W' ∧ KpC p W1 W') ∨ (e = .returned (.bool false) ∧ Jx (pre ++ [x]) W'))
    (W : World) (cur : Array Value) (hBs : Go.Boxed W Bs 78 (.slice (some ⟨g, 0, none⟩) st.length cap)) (hg : W.heap[g]? = some (.cells cur 3 (0, 0))) (hcur : ∀ j (h : j < st.length), cur[j]? = some (.int .i64 st[j])) (hp : Bs ≠ p) (hpg : g ≠ p) (hl : st.length ≤ 1048576) (h0 : J [] W) :
    CallsIn Fence.wide n Try.prog 77 #[.func (.yield l) #[] #[], .pointer (some ⟨Bs, 0, none⟩)] W fun e W' => (∃ v, e = .returned v) ∧
      ((∃ ys : List (Int × Int), Hid (ys.map Prod.snd = st.reverse) ∧ J ys W') ∨ (∃ pre, Jx pre W')) := by
  have HY := hide hY
  have HBs := hide hBs
  have HG := hide hg
  have HCU := hide hcur
  have H0 := hide h0
  have hc0 := hBs.cell
  clear hY hBs hg hcur h0
  refine callsIn_of_wp Try.func77 rfl trivial ?_ rfl
  simp only [Try.ntmps77, List.size_toArray, List.length_cons, List.length_nil, Nat.reduceAdd, Nat.reduceSub, Array.replicate_succ, Array.replicate_zero, List.push_toArray, List.append_toArray, List.nil_append, List.cons_append]
  gi_wp2
  clear hc0
  gi_loopw [3] (fun i wr => ∃ (k : Nat) (pre : List (Int × Int)), k ≤ st.length ∧ i = .int .i64 ((k : Int) - 1) ∧ Hid (pre.length + k = st.length) ∧ Hid (pre.map Prod.snd = (st.drop k).reverse) ∧ Hid (J pre wr) ∧ Hid (Go.Boxed wr Bs 78 (.slice (some ⟨g, 0, none⟩) st.length cap)) ∧ Hid (wr.heap[g]? = some (.cells cur 3 (0, 0)))) (fun i _ => (intOf i + 1).toNat)
  case atStart => exact ⟨st.length, [], Nat.le_refl _, by go_num, hide (by simp), hide (by simp), H0, HBs, HG⟩
  case round =>
    obtain ⟨k, pre, hk, rfl, HL, HM, HJ, HB, HGr⟩ := hrel
    cases k with
    | zero =>
      gi_wp2
      go_end0
      exact ⟨⟨_, rfl⟩, .inl ⟨pre, hide (by rw [unhide HM]; rfl), unhide HJ⟩⟩
    | succ j =>
      have hj : j < st.length := by omega
      have hcell : wr.cell? ⟨g, j, none⟩ = some (.int .i64 st[j]) := by
        have := unhide HCU j hj
        simp [World.cell?, unhide HGr, this]
      have hbox := (unhide HB).cell
      obtain ⟨fn, tmps, assign, body, hy, hR⟩ := unhide HY pre ((j : Int), st[j]) wr (unhide HJ) (by have := unhide HL; omega)
      have HRR := hide hR
      have HM2 := hide (show (pre ++ [((j : Int), st[j])]).map Prod.snd = (st.drop j).reverse by rw [List.map_append, unhide HM, List.drop_eq_getElem_cons hj, List.reverse_cons]; rfl)
      have hij : ((j + 1 : Nat) : Int) - 1 = (j : Int) := by omega
      obtain ⟨y, hyy⟩ : ∃ y, st[j] = y := ⟨_, rfl⟩
      rw [hyy] at hcell hy HRR HM2
      simp only at hy
      rw [hij]
      have j0 : (0 : Int) ≤ j := by omega
      have j1 : (j : Int) < st.length := by omega
      clear hR hyy hij HM
      gi_wp2
      refine ⟨(by intro e; cases e), ?_⟩
      refine (unhide HRR).mono ?_
      rintro e W3 (⟨rfl, hJ3, hk3⟩ | ⟨rfl, hJx3⟩)
      · have HB3 := hide (show Go.Boxed W3 Bs 78 (.slice (some ⟨g, 0, none⟩) st.length cap) from hk3 Bs _ hp (unhide HB) rfl)
        have HG3 := hide (hk3 g _ hpg (unhide HGr) rfl)
        have HJ3 := hide hJ3
        clear hk3 hJ3 hcell hbox hy HRR
        gi_wp2
        go_roundw
        case rel => exact ⟨j, pre ++ [((j : Int), y)], by omega, by go_num, hide (by have := unhide HL; simp; omega), HM2, HJ3, HB3, HG3⟩
        case measure => simp [intOf]
      · gi_wp2
        refine bodyPost_ret (results_none rfl _ _ _) rfl ?_
        exact ⟨⟨_, rfl⟩, .inr ⟨_, hJx3⟩⟩

theorem back_stops (n Bs p base : Nat) (v : Value) (st : List Int) (w : World) (hBs : Go.Boxed w Bs 78 v) (hrow : w.ownsRow base 3 1 v st.length (ints st)) (hp : Bs ≠ p) (hpv : some p ≠ v.ownBlock) (hl : st.length ≤ 1048576) :
    SeqStopsK Fence.wide n Try.prog 77 #[.pointer (some ⟨Bs, 0, none⟩)] (fun x : Int × Int => #[.int .i64 x.1, .int .i64 x.2]) (KpC p) (fun ys => Hid (ys.map Prod.snd = st.reverse)) (fun _ => True) st.length w := by
  intro l J Jx W hW hJ hJx hY h0
  have hB : Go.Boxed W Bs 78 v := boxed_below hBs hW
  have hr := row_below hrow hW
  rcases hr.2 with ⟨rfl, hz⟩ | ⟨g, cap, cur, rfl, _, hgb, hle, _, hsz, hx⟩
  · have : st = [] := List.eq_nil_of_length_eq_zero hz
    subst this
    exact (back_nil n l Bs J W hB.cell h0).mono fun e W' ⟨he, hj⟩ => ⟨he, .inl ⟨[], hide rfl, hj⟩⟩
  · refine (back_some n l Bs p g cap st J Jx hY W cur hB hgb (fun j h => ?_) hp (fun e => hpv (by simp [Value.ownBlock, e])) hl h0).mono ?_
    · have e1 : (cur.toList.take (st.length * 1))[j]? = some (.int .i64 st[j]) := by rw [hx]; simp [h]
      rw [List.getElem?_take_of_lt (by omega)] at e1
      simpa using e1
    · rintro e W' ⟨he, ⟨ys, h1, h2⟩ | ⟨pre, h2⟩⟩
      · exact ⟨he, .inl ⟨ys, h1, h2⟩⟩
      · exact ⟨he, .inr ⟨pre, trivial, h2⟩⟩

set_option maxHeartbeats 1000000 in
theorem back_any (v : Value) (w : World) (hv : v.oneCell' = true) :
    Calls Try.prog 59 #[v] w fun e w' => e = .returned (.func (.func 77) #[] #[.pointer (some ⟨w.heap.size, 0, none⟩)]) ∧ w.alloc (.cells #[v] 78) = w' := by
  have hmf : ∀ (fn : Fn) (first cap : Array Value) (w : World), (Instr.makeFunc fn first cap).run Try.prog w = .ok (.func fn first cap) w := fun _ _ _ _ => rfl
  go_enter Try.func59, Try.ntmps59
  go_wp2
  go_ret
  exact ⟨rfl, rfl⟩
end Go.Proofs.Ytbapainfiepadaa
