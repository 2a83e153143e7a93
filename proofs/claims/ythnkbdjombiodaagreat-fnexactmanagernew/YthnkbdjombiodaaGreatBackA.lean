/-
  The library's Backward over a list of applications: what its function that takes a yield hands on; walks over the dump.
-/
import Derived.Test.YthnkbdjombiodaaGreatAKey
import Derived.Test.YthnkbdjombiodaaGreatKpAB
namespace Go.Proofs.YthnkbdjombiodaaGreat
open Go.RowKit Go.Shelf
set_option linter.unusedVariables false
attribute [local go_sem] Oper.semAt_some

/-- an application whose number is one -/
abbrev NAV := { m : AV // (Lit.int .i64 m.id).wf = true }
theorem AVRow.kpa {W W' : World} {ao : Option Addr} {len : Nat} {l : List AV} (h : AVRow W ao len l) (k : KpA W W') : AVRow W' ao len l := by
  obtain ⟨h1, h2⟩ := h
  refine ⟨h1, ?_⟩
  rcases h2 with h2 | ⟨b, off, h3, h4⟩
  · exact .inl h2
  · exact .inr ⟨b, off, h3, fun i hi => let ⟨a, b, c⟩ := h4 i hi; ⟨k.cell a, k.cell b, k.cell c⟩⟩

set_option maxRecDepth 100000 in
set_option maxHeartbeats 4000000 in
theorem backA_some (n l Bs len cap : Nat) (ao : Option Addr) (ms : List AV) (J Jx : List (Int × NAV) → World → Prop)
    (hY : ∀ pre x W1, J pre W1 → pre.length < ms.length → YieldAt Fence.wide (n - 1) Tryz.prog l #[.int .i64 x.1, avv x.2.1] W1 fun e W' =>
      (e = .returned (.bool true) ∧ J (pre ++ [x]) W' ∧ KpA W1 W') ∨ (e = .returned (.bool false) ∧ Jx (pre ++ [x]) W'))
    (W : World) (hBs : W.cell? ⟨Bs, 0, none⟩ = some (.slice ao len cap)) (hg : AVRow W ao len ms) (hl : len ≤ 1048576) (hN : ∀ m ∈ ms, (Lit.int .i64 m.id).wf = true) (h0 : J [] W) :
    CallsIn Fence.wide n Tryz.prog 112 #[.func (.yield l) #[] #[], .pointer (some ⟨Bs, 0, none⟩)] W fun e W' => (∃ v, e = .returned v) ∧
      ((∃ ys : List (Int × NAV), Hid (ys.map (fun x : Int × NAV => x.2.1) = ms.reverse) ∧ J ys W') ∨ (∃ pre, Jx pre W')) := by
  have HY := hide hY
  have HBs := hide hBs
  have HG := hide hg
  have HLEN := hide hg.1
  have H0 := hide h0
  have HNN := hide hN
  clear hY hg h0 hN
  refine callsIn_of_wp Tryz.func112 rfl trivial ?_ rfl
  simp only [Tryz.ntmps112, List.size_toArray, List.length_cons, List.length_nil, Nat.reduceAdd, Nat.reduceSub, Array.replicate_succ, Array.replicate_zero, List.push_toArray, List.append_toArray, List.nil_append, List.cons_append]
  gi_wp2
  clear hBs
  gi_loopw [3] (fun i wr => ∃ (k : Nat) (pre : List (Int × NAV)), k ≤ len ∧ i = .int .i64 ((k : Int) - 1) ∧ Hid (pre.length + k = ms.length) ∧ Hid (pre.map (fun x : Int × NAV => x.2.1) = (ms.drop k).reverse) ∧ Hid (J pre wr) ∧ Hid (wr.cell? ⟨Bs, 0, none⟩ = some (.slice ao len cap)) ∧ Hid (AVRow wr ao len ms)) (fun i _ => (intOf i + 1).toNat)
  case atStart => exact ⟨len, [], Nat.le_refl _, by go_num, hide (by have := unhide HLEN; simp; omega), hide (by rw [List.drop_of_length_le (by have := unhide HLEN; omega)]; rfl), H0, HBs, HG⟩
  case round =>
    obtain ⟨k, pre, hk, rfl, HL, HM, HJ, HB, HGr⟩ := hrel
    cases k with
    | zero =>
      gi_wp2
      go_end0
      exact ⟨⟨_, rfl⟩, .inl ⟨pre, hide (by rw [unhide HM]; rfl), unhide HJ⟩⟩
    | succ j =>
      have hj : j < len := by omega
      obtain ⟨b, off, rfl, hq⟩ := (unhide HGr).at hj
      have hjm : j < ms.length := by have := unhide HLEN; omega
      obtain ⟨c0, c1, c2⟩ := hq hjm
      have hbox := unhide HB
      have hel := unhide HNN ms[j] (List.getElem_mem _)
      obtain ⟨fn, tmps, assign, body, hy, hR⟩ := unhide HY pre ((j : Int), ⟨ms[j], hel⟩) wr (unhide HJ) (by have := unhide HL; omega)
      have HRR := hide hR
      have HM2 := hide (show (pre ++ [((j : Int), (⟨ms[j], hel⟩ : NAV))]).map (fun x : Int × NAV => x.2.1) = (ms.drop j).reverse by rw [List.map_append, unhide HM, List.drop_eq_getElem_cons hjm, List.reverse_cons]; rfl)
      have hij : ((j + 1 : Nat) : Int) - 1 = (j : Int) := by omega
      obtain ⟨y, hyy⟩ : ∃ y : NAV, (⟨ms[j], hel⟩ : NAV) = y := ⟨_, rfl⟩
      have hy1 : ms[j] = y.1 := by rw [← hyy]
      rw [hyy] at hy HRR HM2
      rw [hy1] at c0 c1 c2
      obtain ⟨⟨id, qu, zo, zl, zc⟩, hyn⟩ := y
      simp only at hy c0 c1 c2
      rw [hij]
      have j0 : (0 : Int) ≤ j := by omega
      have j1 : (j : Int) < len := by omega
      clear hR hyy hy1 hij HM hq hjm hel
      gi_wp2
      refine ⟨(by intro e; cases e), ?_⟩
      refine (unhide HRR).mono ?_
      rintro e W3 (⟨rfl, hJ3, hk3⟩ | ⟨rfl, hJx3⟩)
      · have HB3 := hide (hk3.cell (unhide HB))
        have HG3 := hide ((unhide HGr).kpa hk3)
        have HJ3 := hide hJ3
        clear hk3 hJ3 hbox hy HRR c0 c1 c2
        gi_wp2
        go_roundw
        case rel => exact ⟨j, pre ++ [((j : Int), ⟨⟨id, qu, zo, zl, zc⟩, hyn⟩)], by omega, by go_num, hide (by have := unhide HL; simp; omega), HM2, HJ3, HB3, HG3⟩
        case measure => simp [intOf]
      · gi_wp2
        refine bodyPost_ret (results_none rfl _ _ _) rfl ?_
        exact ⟨⟨_, rfl⟩, .inr ⟨_, hJx3⟩⟩

theorem backA_stops (n Bs len cap : Nat) (ao : Option Addr) (ms : List AV) (w : World) (hBs : w.cell? ⟨Bs, 0, none⟩ = some (.slice ao len cap)) (hrow : AVRow w ao len ms) (hl : len ≤ 1048576) (hN : ∀ m ∈ ms, (Lit.int .i64 m.id).wf = true) :
    SeqStopsK Fence.wide n Tryz.prog 112 #[.pointer (some ⟨Bs, 0, none⟩)] (fun x : Int × NAV => #[.int .i64 x.1, avv x.2.1]) KpA (fun ys => Hid (ys.map (fun x : Int × NAV => x.2.1) = ms.reverse)) (fun _ => True) ms.length w := by
  intro l J Jx W hW hJ hJx hY h0
  refine (backA_some n l Bs len cap ao ms J Jx hY W ((hW.cell (cell_lt hBs)).trans hBs) (hrow.below hW) hl hN h0).mono ?_
  rintro e W' ⟨he, ⟨ys, h1, h2⟩ | ⟨pre, h2⟩⟩
  · exact ⟨he, .inl ⟨ys, h1, h2⟩⟩
  · exact ⟨he, .inr ⟨pre, trivial, h2⟩⟩

set_option maxHeartbeats 1000000 in
theorem backA_any (v : Value) (w : World) (hv : v.oneCell' = true) :
    Calls Tryz.prog 98 #[v] w fun e w' => e = .returned (.func (.func 112) #[] #[.pointer (some ⟨w.heap.size, 0, none⟩)]) ∧ w.alloc (.cells #[v] 25) = w' := by
  have hmf : ∀ (fn : Fn) (first cap : Array Value) (w : World), (Instr.makeFunc fn first cap).run Tryz.prog w = .ok (.func fn first cap) w := fun _ _ _ _ => rfl
  go_enter Tryz.func98, Tryz.ntmps98
  go_wp2
  go_ret
  exact ⟨rfl, rfl⟩

set_option maxHeartbeats 1000000 in
theorem appKey_any (m : AV) (w : World) :
    Calls Tryz.prog 99 #[avv m] w fun e w' => e = .returned (.agg #[.string (bs []), .int .i64 m.id]) ∧ Below w.heap.size w w' := by
  obtain ⟨id, qu, zo, zl, zc⟩ := m
  go_enter Tryz.func99, Tryz.ntmps99
  go_wp2
  refine bodyPost_ret (v := .agg #[.string (bs []), .int .i64 id]) (by simp [results, Tryz.results99, go_sem]; rfl) rfl ⟨rfl, ?_⟩
  repeat (first | exact Below.refl _ _ | refine below_al ?_ _ | refine Below.drew ?_ | refine below_sc ?_ _ _ _ (by omega))
end Go.Proofs.YthnkbdjombiodaaGreat
