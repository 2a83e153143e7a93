/-
  Several texts of this claim in one: OkD, KpAB, BackM, MKey (pack.py put them together); each says in its own remark what is proved.
-/
import Derived.Test.YtcplnodfcchdhaaGreatPackR
import Derived.RangeFuncNested
import Derived.RangeFuncBound
import Derived.RangeFuncCalls
import Derived.RangeFuncLeaves
import Derived.Shelf.Abstract
import Derived.Shelf.AbstractIn
import Derived.Shelf.RegionOpen
import Derived.WalkKit
import Derived.OwnWalkIn
import Derived.TacticsInMore
import Derived.LoopNIn
import Derived.LoopIn
import Derived.Test.YtcplnodfcchdhaaGreatStAll
import Derived.Test.YtcplnodfcchdhaaGreatPackB
/-
  The machines of a state are right: machinesOk, by the program; a walk over the dump.
-/
namespace Go.Proofs.YtcplnodfcchdhaaGreat
open Go.RowKit
set_option linter.unusedVariables false
/-- a text that is no more than another, by its bytes -/
def leT (a b : List UInt8) : Bool := Op.bytesLess (bs a).toList (bs b).toList || ((bs a).toList == (bs b).toList)
def machsFrom (ck : Int) : List UInt8 → List Mac → Bool
  | _, [] => true
  | last, m :: t => !leT m.name last && (nameOk m.name && (decide (0 ≤ m.seen) && (decide (m.seen ≤ ck) && machsFrom ck m.name t)))
def machsOkV (s : St) : Bool := decide (s.ms.length ≤ 20) && (machsFrom s.clock [] s.ms && (sumR (capsOf s.ms)).2.2)
theorem machsFrom_step {ck : Int} {last : List UInt8} {l : List Mac} {k : Nat} (h : k < l.length) : machsFrom ck last (l.drop k) = (!leT l[k].name last && (nameOk l[k].name && (decide (0 ≤ l[k].seen) && (decide (l[k].seen ≤ ck) && machsFrom ck l[k].name (l.drop (k + 1)))))) := by
  rw [List.drop_eq_getElem_cons h, machsFrom]
theorem machsFrom_end {ck : Int} {last : List UInt8} {l : List Mac} {k : Nat} (h : l.length ≤ k) : machsFrom ck last (l.drop k) = true := by
  rw [List.drop_of_length_le h]; rfl

set_option maxRecDepth 100000 in
set_option maxHeartbeats 4000000 in
theorem machinesOk_any (x : Sls) (s : St) (w : World) (h : SRow w x s) (hf : FitSt s) :
    Calls Tryz.prog 63 #[sv x s] w fun e w' => e = .returned (.bool (machsOkV s)) ∧ Below w.heap.size w w' := by
  have hml : x.ml ≤ 1048576 := by have := h.len.2.2.1; have := hf.2.2.1.1; omega
  have HR := hide h.2.2.1
  have HL := hide h.2.2.1.1
  have HFM := hide hf.2.2.1
  obtain ⟨⟨cx, cy, co⟩, hco⟩ : ∃ r, sumR (capsOf s.ms) = r := ⟨_, rfl⟩
  have CC := hide (fun wx (hb : Below w.heap.size w wx) => by have := caps_any x s wx (h.2.2.1.below hb) hml; rw [hco] at this; exact this)
  have HS := hide (show machsOkV s = (decide (x.ml ≤ 20) && (machsFrom s.clock [] s.ms && co)) by rw [machsOkV, ← h.2.2.1.1, hco])
  obtain ⟨o, ho⟩ : ∃ o, machsOkV s = o := ⟨_, rfl⟩
  rw [ho] at HS ⊢
  clear h hf ho hco
  have hb0 := below_al (Below.refl _ w) (.cells (svc x s) 29)
  have P0 := hide (blk_new w (svc x s) 29)
  obtain ⟨qa, ql, qc, aa, al, ac, ma, ml, mc, ca, cl, cc⟩ := x
  obtain ⟨qs, clock, epoch, next, serial, apps, ms, cs⟩ := s
  simp only at hml HR HL HFM CC HS P0 hb0
  have HB0 := hide hb0
  clear hb0
  by_cases h40 : ml ≤ 20
  case neg =>
    have hi : (20 : Int) < ml := by omega
    rw [decide_eq_false h40] at HS
    go_enter Tryz.func63, Tryz.ntmps63
    go_wp2
    go_ret
    exact ⟨ret_bool (by rw [unhide HS]; simp), unhide HB0⟩
  have hi : ¬ (20 : Int) < ml := by omega
  rw [decide_eq_true h40, Bool.true_and] at HS
  clear h40
  go_enter Tryz.func63, Tryz.ntmps63
  go_wp2
  go_loopw [3, 15] (fun la i wr => ∃ (k : Nat) (last : List UInt8), k ≤ ml ∧ i = .int .i64 k ∧ la = .string (bs last) ∧ Hid (o = (machsFrom clock last (ms.drop k) && co)) ∧ Hid (Blk wr w.heap.size (svc ⟨qa, ql, qc, aa, al, ac, ma, ml, mc, ca, cl, cc⟩ ⟨qs, clock, epoch, next, serial, apps, ms, cs⟩) 29) ∧ Hid (Below w.heap.size w wr)) (fun _ i _ => ml - (intOf i).toNat)
  case atStart => exact ⟨0, [], Nat.zero_le _, rfl, rfl, hide (by rw [unhide HS]; simp), P0, HB0⟩
  case round =>
    obtain ⟨k, last, hk, rfl, rfl, HO, P1, HB⟩ := hrel
    clear P0 HB0 HS
    by_cases hlt : k < ml
    · obtain ⟨b, off, rfl, hq⟩ := ((unhide HR).below (unhide HB)).at hlt
      have hkl : k < ms.length := by have := unhide HL; omega
      have hst := hide (machsFrom_step (ck := clock) (last := last) (l := ms) (k := k) hkl)
      have hfa := (unhide HFM).2 _ (List.getElem_mem hkl)
      obtain ⟨c0, c1, c2, c3⟩ := hq hkl
      obtain ⟨⟨nm, me, cp, se⟩, hs⟩ : ∃ s, ms[k] = s := ⟨_, rfl⟩
      rw [hs] at c0 c1 c2 c3 hst hfa
      simp only at c0 c1 c2 c3 hst hfa
      obtain ⟨no, hno⟩ : ∃ b, nameOk nm = b := ⟨_, rfl⟩
      have C1 := hide (fun wx => by have := implNameOk_any (bs nm) wx (by rw [bs_size]; exact hfa); rw [show nameOk (bs nm).data.toList = no by rw [← hno]; simp [bs]] at this; exact this)
      obtain ⟨l1, hl1⟩ : ∃ b, Op.bytesLess (bs nm).toList (bs last).toList = b := ⟨_, rfl⟩
      obtain ⟨l2, hl2⟩ : ∃ b, ((bs nm).toList == (bs last).toList) = b := ⟨_, rfl⟩
      have hst2 := hide (show machsFrom clock last (ms.drop k) = (!(l1 || l2) && (no && (decide (0 ≤ se) && (decide (se ≤ clock) && machsFrom clock nm (ms.drop (k + 1)))))) by rw [unhide hst, leT, hl1, hl2, hno])
      have hb2 := below_al (Below.refl _ wr) (.cells #[.string (bs nm), .int .i64 me, .int .i64 cp, .int .i64 se] 56)
      have P2 := hide ((unhide P1).below hb2)
      have HB2 := hide (below_on (unhide HB) hb2)
      have p1 := (unhide P2).at 1
      simp at p1
      clear hq hs hkl hfa hb2 hno hst CC
      cases l1 <;> cases l2
      case false.false =>
        go_wp2_with fail
        refine (unhide C1 _).mono ?_
        rintro e w1 ⟨rfl, rfl⟩
        cases no with
        | false =>
          go_wp2
          go_ret
          exact ⟨ret_bool (by rw [unhide HO, unhide hst2]; simp), unhide HB2⟩
        | true =>
        by_cases h1 : 0 ≤ se
        case neg =>
          have h1' : se < 0 := by omega
          go_wp2
          go_ret
          exact ⟨ret_bool (by rw [unhide HO, unhide hst2, decide_eq_false (show ¬ 0 ≤ se by omega)]; simp), unhide HB2⟩
        by_cases h2 : se ≤ clock
        case neg =>
          have h1' : ¬ se < 0 := by omega
          have h2' : clock < se := by omega
          go_wp2
          go_ret
          exact ⟨ret_bool (by rw [unhide HO, unhide hst2, decide_eq_false (show ¬ se ≤ clock by omega)]; simp), unhide HB2⟩
        have h1' : ¬ se < 0 := by omega
        have h2' : ¬ clock < se := by omega
        have HO2 := hide (show o = (machsFrom clock nm (ms.drop (k + 1)) && co) by rw [unhide HO, unhide hst2, decide_eq_true h1, decide_eq_true h2]; simp)
        go_wp2
        go_roundw
        case rel => exact ⟨k + 1, nm, by omega, by go_num, rfl, HO2, P2, HB2⟩
        case measure => simp [intOf]; omega
      all_goals
        go_wp2
        go_ret
        exact ⟨ret_bool (by rw [unhide HO, unhide hst2]; simp), unhide HB2⟩
    · have HO2 := hide (show o = co by rw [unhide HO, machsFrom_end (by have := unhide HL; omega)]; simp)
      have p0 := (unhide P1).at 0; have p1 := (unhide P1).at 1; have p2 := (unhide P1).at 2; have p3 := (unhide P1).at 3
      have p4 := (unhide P1).at 4; have p5 := (unhide P1).at 5; have p6 := (unhide P1).at 6; have p7 := (unhide P1).at 7
      simp at p0 p1 p2 p3 p4 p5 p6 p7
      go_wp2_with fail
      refine (unhide CC _ (unhide HB)).mono ?_
      rintro e w1 ⟨rfl, hb⟩
      have HB2 := hide (below_al (below_on (unhide HB) hb) (.cells #[.int .i64 cx, .int .i64 cy] 33))
      clear hb CC
      go_wp2
      go_ret
      exact ⟨ret_bool (by rw [unhide HO2]), unhide HB2⟩
end Go.Proofs.YtcplnodfcchdhaaGreat

/-
  What a round that goes on keeps, where a map is filled: every row of cells.
-/
namespace Go.Proofs.YtcplnodfcchdhaaGreat
open Go.RowKit Go.Shelf
set_option linter.unusedVariables false
/-- what a round that goes on keeps: every row of cells -/
def KpA (W W' : World) : Prop := ∀ (k : Nat) (o : Obj), W.heap[k]? = some o → o.isCells = true → W'.heap[k]? = some o
theorem kpa_t {A B C : World} (h : KpA A B) (k : KpA B C) : KpA A C := fun i o ho hc => k i o (h i o ho hc) hc
theorem kpa_b {w : World} (W : World) (l : Nat) (o o' : Obj) (hl : w.heap.size ≤ l) (h : W.heap[l]? = some o) (h1 : o.isCells = false) (h2 : o.isWalk = false) : KpA W (W.putObj l o') := fun k q hq hc => by
  have hne : k ≠ l := fun e => by
    subst e
    rw [hq] at h
    cases h
    rw [h1] at hc
    cases hc
  exact ((grownBy_putObj' W l o').block k (lt_of_block hq) (by simp; omega)).trans hq
theorem kpa_below {W W' : World} (h : Below W.heap.size W W') : KpA W W' := fun k o ho _ => (h.block k (lt_of_block ho)).trans ho
theorem cell_cells {W : World} {b j : Nat} {v : Value} (hc : W.cell? ⟨b, j, none⟩ = some v) : ∃ o, W.heap[b]? = some o ∧ o.isCells = true := by
  cases h : W.heap[b]? with
  | none => simp [World.cell?, h] at hc
  | some o =>
    refine ⟨o, rfl, ?_⟩
    cases o <;> simp [World.cell?, h] at hc <;> rfl
theorem KpA.cell {W W' : World} (h : KpA W W') {b j : Nat} {v : Value} (hc : W.cell? ⟨b, j, none⟩ = some v) : W'.cell? ⟨b, j, none⟩ = some v := by
  obtain ⟨o, h1, h2⟩ := cell_cells hc
  have h3 := h b o h1 h2
  unfold World.cell? at hc ⊢
  rw [h1] at hc
  rw [h3]
  exact hc
theorem keepsO_below {w w' : World} (hb : Below w.heap.size w w') : KeepsOthers w w' := KeepsOthers.of_grownBy (row := none) (grownBy_below (grownBy_refl w none) hb) (fun j o e => by cases e)
end Go.Proofs.YtcplnodfcchdhaaGreat

/-
  The library's Backward over a list of machines: what its function that takes a yield hands on; walks over the dump.
-/
namespace Go.Proofs.YtcplnodfcchdhaaGreat
open Go.RowKit Go.Shelf
set_option linter.unusedVariables false
attribute [local go_sem] Oper.semAt_some

/-- a machine whose name is not too long -/
abbrev NMac := { m : Mac // m.name.length ≤ 1048576 }
theorem MacRow.kpa {W W' : World} {ao : Option Addr} {len : Nat} {l : List Mac} (h : MacRow W ao len l) (k : KpA W W') : MacRow W' ao len l := by
  obtain ⟨h1, h2⟩ := h
  refine ⟨h1, ?_⟩
  rcases h2 with h2 | ⟨b, off, h3, h4⟩
  · exact .inl h2
  · exact .inr ⟨b, off, h3, fun i hi => let ⟨a, b, c, d⟩ := h4 i hi; ⟨k.cell a, k.cell b, k.cell c, k.cell d⟩⟩

set_option maxRecDepth 100000 in
set_option maxHeartbeats 4000000 in
theorem backM_some (n l Bs len cap : Nat) (ao : Option Addr) (ms : List Mac) (J Jx : List (Int × NMac) → World → Prop)
    (hY : ∀ pre x W1, J pre W1 → pre.length < ms.length → YieldAt Fence.wide (n - 1) Tryz.prog l #[.int .i64 x.1, macv x.2.1] W1 fun e W' =>
      (e = .returned (.bool true) ∧ J (pre ++ [x]) W' ∧ KpA W1 W') ∨ (e = .returned (.bool false) ∧ Jx (pre ++ [x]) W'))
    (W : World) (hBs : W.cell? ⟨Bs, 0, none⟩ = some (.slice ao len cap)) (hg : MacRow W ao len ms) (hl : len ≤ 1048576) (hN : ∀ m ∈ ms, m.name.length ≤ 1048576) (h0 : J [] W) :
    CallsIn Fence.wide n Tryz.prog 114 #[.func (.yield l) #[] #[], .pointer (some ⟨Bs, 0, none⟩)] W fun e W' => (∃ v, e = .returned v) ∧
      ((∃ ys : List (Int × NMac), Hid (ys.map (fun x : Int × NMac => x.2.1) = ms.reverse) ∧ J ys W') ∨ (∃ pre, Jx pre W')) := by
  have HY := hide hY
  have HBs := hide hBs
  have HG := hide hg
  have HLEN := hide hg.1
  have H0 := hide h0
  have HNN := hide hN
  clear hY hg h0 hN
  refine callsIn_of_wp Tryz.func114 rfl trivial ?_ rfl
  simp only [Tryz.ntmps114, List.size_toArray, List.length_cons, List.length_nil, Nat.reduceAdd, Nat.reduceSub, Array.replicate_succ, Array.replicate_zero, List.push_toArray, List.append_toArray, List.nil_append, List.cons_append]
  gi_wp2
  clear hBs
  gi_loopw [3] (fun i wr => ∃ (k : Nat) (pre : List (Int × NMac)), k ≤ len ∧ i = .int .i64 ((k : Int) - 1) ∧ Hid (pre.length + k = ms.length) ∧ Hid (pre.map (fun x : Int × NMac => x.2.1) = (ms.drop k).reverse) ∧ Hid (J pre wr) ∧ Hid (wr.cell? ⟨Bs, 0, none⟩ = some (.slice ao len cap)) ∧ Hid (MacRow wr ao len ms)) (fun i _ => (intOf i + 1).toNat)
  case atStart => exact ⟨len, [], Nat.le_refl _, by go_num, hide (by have := unhide HLEN; simp; omega), hide (by rw [List.drop_of_length_le (by have := unhide HLEN; omega)]; rfl), H0, HBs, HG⟩
  case round =>
    obtain ⟨k, pre, hk, rfl, HL, HM, HJ, HB, HGr⟩ := hrel
    cases k with
    | zero =>
      gi_wp2
      go_end0
      exact ⟨⟨_, rfl⟩, .inl ⟨pre, hide (by rw [unhide HM]; rfl), unhide HJ⟩⟩
    | succ j =>
      have hj : j < len := by omega
      obtain ⟨b, off, rfl, hq⟩ := (unhide HGr).at hj
      have hjm : j < ms.length := by have := unhide HLEN; omega
      obtain ⟨c0, c1, c2, c3⟩ := hq hjm
      have hbox := unhide HB
      have hel := unhide HNN ms[j] (List.getElem_mem _)
      obtain ⟨fn, tmps, assign, body, hy, hR⟩ := unhide HY pre ((j : Int), ⟨ms[j], hel⟩) wr (unhide HJ) (by have := unhide HL; omega)
      have HRR := hide hR
      have HM2 := hide (show (pre ++ [((j : Int), (⟨ms[j], hel⟩ : NMac))]).map (fun x : Int × NMac => x.2.1) = (ms.drop j).reverse by rw [List.map_append, unhide HM, List.drop_eq_getElem_cons hjm, List.reverse_cons]; rfl)
      have hij : ((j + 1 : Nat) : Int) - 1 = (j : Int) := by omega
      obtain ⟨y, hyy⟩ : ∃ y : NMac, (⟨ms[j], hel⟩ : NMac) = y := ⟨_, rfl⟩
      have hy1 : ms[j] = y.1 := by rw [← hyy]
      rw [hyy] at hy HRR HM2
      rw [hy1] at c0 c1 c2 c3
      obtain ⟨⟨nm, me, cp, se⟩, hyn⟩ := y
      simp only at hy c0 c1 c2 c3
      rw [hij]
      have j0 : (0 : Int) ≤ j := by omega
      have j1 : (j : Int) < len := by omega
      clear hR hyy hy1 hij HM hq hjm hel
      gi_wp2
      refine ⟨(by intro e; cases e), ?_⟩
      refine (unhide HRR).mono ?_
      rintro e W3 (⟨rfl, hJ3, hk3⟩ | ⟨rfl, hJx3⟩)
      · have HB3 := hide (hk3.cell (unhide HB))
        have HG3 := hide ((unhide HGr).kpa hk3)
        have HJ3 := hide hJ3
        clear hk3 hJ3 hbox hy HRR c0 c1 c2 c3
        gi_wp2
        go_roundw
        case rel => exact ⟨j, pre ++ [((j : Int), ⟨⟨nm, me, cp, se⟩, hyn⟩)], by omega, by go_num, hide (by have := unhide HL; simp; omega), HM2, HJ3, HB3, HG3⟩
        case measure => simp [intOf]
      · gi_wp2
        refine bodyPost_ret (results_none rfl _ _ _) rfl ?_
        exact ⟨⟨_, rfl⟩, .inr ⟨_, hJx3⟩⟩

theorem backM_stops (n Bs len cap : Nat) (ao : Option Addr) (ms : List Mac) (w : World) (hBs : w.cell? ⟨Bs, 0, none⟩ = some (.slice ao len cap)) (hrow : MacRow w ao len ms) (hl : len ≤ 1048576) (hN : ∀ m ∈ ms, m.name.length ≤ 1048576) :
    SeqStopsK Fence.wide n Tryz.prog 114 #[.pointer (some ⟨Bs, 0, none⟩)] (fun x : Int × NMac => #[.int .i64 x.1, macv x.2.1]) KpA (fun ys => Hid (ys.map (fun x : Int × NMac => x.2.1) = ms.reverse)) (fun _ => True) ms.length w := by
  intro l J Jx W hW hJ hJx hY h0
  refine (backM_some n l Bs len cap ao ms J Jx hY W ((hW.cell (cell_lt hBs)).trans hBs) (hrow.below hW) hl hN h0).mono ?_
  rintro e W' ⟨he, ⟨ys, h1, h2⟩ | ⟨pre, h2⟩⟩
  · exact ⟨he, .inl ⟨ys, h1, h2⟩⟩
  · exact ⟨he, .inr ⟨pre, trivial, h2⟩⟩

set_option maxHeartbeats 1000000 in
theorem backM_any (v : Value) (w : World) (hv : v.oneCell' = true) :
    Calls Tryz.prog 82 #[v] w fun e w' => e = .returned (.func (.func 114) #[] #[.pointer (some ⟨w.heap.size, 0, none⟩)]) ∧ w.alloc (.cells #[v] 26) = w' := by
  have hmf : ∀ (fn : Fn) (first cap : Array Value) (w : World), (Instr.makeFunc fn first cap).run Tryz.prog w = .ok (.func fn first cap) w := fun _ _ _ _ => rfl
  go_enter Tryz.func82, Tryz.ntmps82
  go_wp2
  go_ret
  exact ⟨rfl, rfl⟩

set_option maxHeartbeats 1000000 in
theorem macKey_any (m : Mac) (w : World) :
    Calls Tryz.prog 83 #[macv m] w fun e w' => e = .returned (.agg #[.string (bs m.name), .int .i64 0]) ∧ Below w.heap.size w w' := by
  obtain ⟨nm, me, cp, se⟩ := m
  go_enter Tryz.func83, Tryz.ntmps83
  go_wp2
  refine bodyPost_ret (v := .agg #[.string (bs nm), .int .i64 0]) (by simp [results, Tryz.results83, go_sem]) rfl ⟨rfl, ?_⟩
  repeat (first | exact Below.refl _ _ | refine below_al ?_ _ | refine Below.drew ?_ | refine below_sc ?_ _ _ _ (by omega))
end Go.Proofs.YtcplnodfcchdhaaGreat

/-
  The map of machines by a key of name and number: its keys, its elements, and what it is known to hold.
-/
namespace Go.Proofs.YtcplnodfcchdhaaGreat
open Go.RowKit Go.Maps
set_option linter.unusedVariables false
/-- how a machine reads -/
def md (m : Mac) : DataW Unit := .agg [.lit (.string m.name), .lit (.int .i64 m.mem), .lit (.int .i64 m.cpu), .lit (.int .i64 m.seen)]
def macElem : Value → Option (DataW Unit × List MemPlace)
  | .agg cs => match cs.toList with
    | [.string s, .int .i64 x, .int .i64 y, .int .i64 z] => some (md ⟨s.data.toList, x, y, z⟩, [])
    | _ => none
  | _ => none
theorem macElem_mk (m : Mac) : macElem (macv m) = some (md m, []) := by
  obtain ⟨nm, x, y, z⟩ := m
  simp [macElem, bs]
theorem macElem_inv {v : Value} {m : Mac} {ps : List MemPlace} (h : macElem v = some (md m, ps)) : v = macv m := by
  unfold macElem at h
  split at h
  · rename_i cs
    split at h
    · rename_i s x y z e
      have e2 : cs = #[.string s, .int .i64 x, .int .i64 y, .int .i64 z] := by cases cs; simpa using e
      obtain ⟨nm, a, b, c⟩ := m
      simp [md] at h
      obtain ⟨⟨h1, h2, h3, h4⟩, _⟩ := h
      subst h1 h2 h3 h4
      rw [e2]
      simp [macv, bs_data]
    · cases h
  · cases h
def findM (nm : List UInt8) (l : List Mac) : Option Mac := l.find? (fun m => decide (m.name = nm))
/-- the map holds, for every name, the first machine of the list that has it -/
def KnownM (l : List Mac) (D : DataW Unit) : Prop := ∀ nm kl, keyOf Tryz.prog 69 (keyv nm 0) = some kl → Maps.has D kl = (findM nm l).isSome ∧ ∀ m, findM nm l = some m → ∀ zd, D.atKey kl zd = md m
theorem knownM_empty : KnownM [] (.map []) := fun nm kl _ => ⟨by simp [Maps.has, findM], fun m h => by simp [findM] at h⟩
theorem KnownM.put {l : List Mac} {D : DataW Unit} (h : KnownM l D) (hD : IsMap D) {m : Mac} {kl : Lit} (hk : keyOf Tryz.prog 69 (keyv m.name 0) = some kl) : KnownM (m :: l) (D.put kl (md m)) := fun nm kl' hk' => by
  by_cases e : kl' = kl
  · subst e
    have := keyLaw.inj hk hk'
    simp [keyv] at this
    have hn : m.name = nm := by
      have h1 := congrArg (fun b : ByteArray => b.data.toList) this
      simpa [bs] using h1
    have hf : findM nm (m :: l) = some m := by simp [findM, hn]
    rw [hf]
    refine ⟨?_, fun m' h' zd => ?_⟩
    · rw [has_put_same hD (keyLaw.key hk)]; rfl
    · cases h'
      exact atKey_put_same hD (keyLaw.key hk) _ _
  · have hn : ¬ m.name = nm := fun hn => e (by subst hn; rw [hk] at hk'; exact (Option.some.inj hk').symm)
    have hf : findM nm (m :: l) = findM nm l := by simp [findM, hn]
    rw [hf, has_put_other e]
    refine ⟨(h nm kl' hk').1, fun m' h' zd => ?_⟩
    rw [atKey_put_other e]
    exact (h nm kl' hk').2 m' h' zd
theorem macZero (w : World) : (zeroValue 56).run Tryz.prog w = .ok (macv ⟨[], 0, 0, 0⟩) w := by kernel_rfl
/-- what a look-up finds -/
theorem lookM {w : World} {bm n : Nat} {l : List Mac} {D : DataW Unit} (hown : w.ownsMap Tryz.prog 69 macElem bm n D) (hk : KnownM l D) {nm : List UInt8} {kl : Lit} (hkey : keyOf Tryz.prog 69 (keyv nm 0) = some kl) :
    (Instr.lookup 66 (.map (some bm)) (keyv nm 0) true).run Tryz.prog w = .ok (.tuple #[macv ((findM nm l).getD ⟨[], 0, 0, 0⟩), .bool (findM nm l).isSome]) w := by
  obtain ⟨v, ps, hrun, hv⟩ := hown.look_ok keyLaw Tryz.underlying66 (macZero w) (macElem_mk ⟨[], 0, 0, 0⟩) hkey
  obtain ⟨h1, h2⟩ := hk nm kl hkey
  rw [hrun, h1]
  cases hf : findM nm l with
  | none =>
    rw [hf] at h1
    rw [atKey_of_not_has h1] at hv
    rw [macElem_inv hv]
    rfl
  | some m =>
    rw [h2 m hf] at hv
    rw [macElem_inv hv]
    rfl
end Go.Proofs.YtcplnodfcchdhaaGreat
