/-
  The text of an event: what the model's OpText answers; walks over the dump.
-/
import Derived.Test.YtfhnjghjibklcaaDoorOpM
import Derived.Test.YtfhnjghjibklcaaDoorTxtM
import Derived.Deep.RegionHeld3
namespace Go.Proofs.YtfhnjghjibklcaaDoor
open Go.RowKit
set_option linter.unusedVariables false
set_option linter.unusedSimpArgs false

/-- the numbers of an event are such that a machine has -/
def OpB (o : Opv) : Prop := (-9223372036854775808 ≤ o.app ∧ o.app ≤ 9223372036854775807) ∧ (-9223372036854775808 ≤ o.cont ∧ o.cont ≤ 9223372036854775807) ∧ ((-9223372036854775808 ≤ o.ask.mem ∧ o.ask.mem ≤ 9223372036854775807) ∧ (-9223372036854775808 ≤ o.ask.cpu ∧ o.ask.cpu ≤ 9223372036854775807) ∧ (-9223372036854775808 ≤ o.ask.count ∧ o.ask.count ≤ 9223372036854775807)) ∧ ((-9223372036854775808 ≤ o.mem ∧ o.mem ≤ 9223372036854775807) ∧ (-9223372036854775808 ≤ o.cpu ∧ o.cpu ≤ 9223372036854775807)) ∧ ∀ q ∈ o.conts, ConB q
theorem OpFit.b {o : Opv} {n : Nat} (h : OpFit o n) : OpB o := ⟨wf_b h.2.2.1, wf_b h.2.2.2.1, ⟨wf_b h.1.2.2.1.2.1, wf_b h.1.2.2.1.2.2.1, wf_b h.1.2.2.1.2.2.2.1⟩, ⟨wf_b h.2.2.2.2.1, wf_b h.2.2.2.2.2⟩, fun q hq => ⟨wf_b (h.1.2.2.2.2 q hq).2.1, wf_b (h.1.2.2.2.2 q hq).2.2.1, wf_b (h.1.2.2.2.2 q hq).2.2.2.1, wf_b (h.1.2.2.2.2 q hq).2.2.2.2⟩⟩
/-- the event's own block stands, and nothing below has turned -/
def OBx (w : World) (o : Opv) (ao : Option Addr) (n c : Nat) (wx : World) : Prop := Blk wx w.heap.size (opc o ao n c) 28 ∧ Below w.heap.size w wx
theorem OBx.call {w w1 w2 : World} {o : Opv} {ao : Option Addr} {n c : Nat} (h : OBx w o ao n c w1) (hb : Below w1.heap.size w1 w2) : OBx w o ao n c w2 := ⟨h.1.below hb, below_on h.2 hb⟩
theorem OBx.drew {w w1 : World} {o : Opv} {ao : Option Addr} {n c : Nat} (h : OBx w o ao n c w1) : OBx w o ao n c w1.drew := h.call (Below.refl _ _).drew
theorem OBx.new (w : World) (o : Opv) (ao : Option Addr) (n c : Nat) : OBx w o ao n c (w.alloc (.cells (opc o ao n c) 28)) := ⟨blk_new w _ _, below_al (Below.refl _ w) _⟩
theorem OBx.read (w : World) (o : Opv) (ao : Option Addr) (n c : Nat) : ∀ wx, OBx w o ao n c wx → wx.cell? ⟨w.heap.size, 1, none⟩ = some (.string (bs o.queue)) ∧ wx.cell? ⟨w.heap.size, 2, none⟩ = some (.int .i64 o.app) ∧ wx.cell? ⟨w.heap.size, 3, none⟩ = some (.int .i64 o.ask.mem) ∧ wx.cell? ⟨w.heap.size, 4, none⟩ = some (.int .i64 o.ask.cpu) ∧ wx.cell? ⟨w.heap.size, 5, none⟩ = some (.int .i64 o.ask.count) ∧ wx.cell? ⟨w.heap.size, 6, none⟩ = some (.string (bs o.ask.node)) ∧ wx.cell? ⟨w.heap.size, 8, none⟩ = some (.int .i64 o.cont) ∧ wx.cell? ⟨w.heap.size, 9, none⟩ = some (.string (bs o.node)) ∧ wx.cell? ⟨w.heap.size, 10, none⟩ = some (.int .i64 o.mem) ∧ wx.cell? ⟨w.heap.size, 11, none⟩ = some (.int .i64 o.cpu) ∧ wx.cell? ⟨w.heap.size, 12, none⟩ = some (.slice ao n c) :=
  fun wx h => ⟨by simpa using h.1.at 1, by simpa using h.1.at 2, by simpa using h.1.at 3, by simpa using h.1.at 4, by simpa using h.1.at 5, by simpa using h.1.at 6, by simpa using h.1.at 8, by simpa using h.1.at 9, by simpa using h.1.at 10, by simpa using h.1.at 11, by simpa using h.1.at 12⟩

set_option maxRecDepth 100000 in
set_option maxHeartbeats 4000000 in
theorem specOp0_any (o : Opv) (ao : Option Addr) (n c : Nat) (w : World) (hk : o.kind = 0) (hf : FitOp o) (hB : OpB o) :
    Calls Tryd.prog 14 #[opv o ao n c] w fun e w' => e = .returned (.string (bs (opL o))) ∧ Below w.heap.size w w' := by
  have A0 := hide (OBx.new w o ao n c)
  obtain ⟨kind, queue, app, ⟨am, ac, an, ad, ai⟩, cont, node, mem, cpu, conts⟩ := o
  simp only at hk
  subst hk
  have HE : bs [115, 117, 98, 109, 105, 116, 32] ++ bs queue = bs (opL ⟨0, queue, app, ⟨am, ac, an, ad, ai⟩, cont, node, mem, cpu, conts⟩) := by rw [bs_app]; simp [opL, opWords, Lib.join_cons, Lib.joinTail]
  have z : (bs queue).size ≤ 1048576 := by rw [bs_size]; exact hf.1
  have m : ¬ 9223372036854775807 < 7 + (bs queue).size := by omega
  have HE := hide HE
  clear hf hB
  go_enter Tryd.func14, Tryd.ntmps14
  go_wp2
  go_ret
  exact ⟨by rw [← unhide HE]; rfl, (unhide A0).2⟩

set_option maxRecDepth 100000 in
set_option maxHeartbeats 4000000 in
theorem specOp5_any (o : Opv) (ao : Option Addr) (n c : Nat) (w : World) (hk : o.kind = 5) (hf : FitOp o) (hB : OpB o) :
    Calls Tryd.prog 14 #[opv o ao n c] w fun e w' => e = .returned (.string (bs (opL o))) ∧ Below w.heap.size w w' := by
  have A0 := hide (OBx.new w o ao n c)
  obtain ⟨kind, queue, app, ⟨am, ac, an, ad, ai⟩, cont, node, mem, cpu, conts⟩ := o
  simp only at hk
  subst hk
  have HE : bs [98, 101, 97, 116, 32] ++ bs node = bs (opL ⟨5, queue, app, ⟨am, ac, an, ad, ai⟩, cont, node, mem, cpu, conts⟩) := by rw [bs_app]; simp [opL, opWords, Lib.join_cons, Lib.joinTail]
  have z : (bs node).size ≤ 1048576 := by rw [bs_size]; exact hf.2.2.1
  have m : ¬ 9223372036854775807 < 5 + (bs node).size := by omega
  have HE := hide HE
  clear hf hB
  go_enter Tryd.func14, Tryd.ntmps14
  go_wp2
  go_ret
  exact ⟨by rw [← unhide HE]; rfl, (unhide A0).2⟩

set_option maxRecDepth 100000 in
set_option maxHeartbeats 4000000 in
theorem specOp7_any (o : Opv) (ao : Option Addr) (n c : Nat) (w : World) (hk : o.kind = 7) (hf : FitOp o) (hB : OpB o) :
    Calls Tryd.prog 14 #[opv o ao n c] w fun e w' => e = .returned (.string (bs (opL o))) ∧ Below w.heap.size w w' := by
  have A0 := hide (OBx.new w o ao n c)
  obtain ⟨kind, queue, app, ⟨am, ac, an, ad, ai⟩, cont, node, mem, cpu, conts⟩ := o
  simp only at hk
  subst hk
  have HE : bs [115, 101, 114, 118, 101, 32] ++ bs queue = bs (opL ⟨7, queue, app, ⟨am, ac, an, ad, ai⟩, cont, node, mem, cpu, conts⟩) := by rw [bs_app]; simp [opL, opWords, Lib.join_cons, Lib.joinTail]
  have z : (bs queue).size ≤ 1048576 := by rw [bs_size]; exact hf.1
  have m : ¬ 9223372036854775807 < 6 + (bs queue).size := by omega
  have HE := hide HE
  clear hf hB
  go_enter Tryd.func14, Tryd.ntmps14
  go_wp2
  go_ret
  exact ⟨by rw [← unhide HE]; rfl, (unhide A0).2⟩

set_option maxRecDepth 100000 in
set_option maxHeartbeats 4000000 in
theorem specOp1_any (o : Opv) (ao : Option Addr) (n c : Nat) (w : World) (hk : o.kind = 1) (hf : FitOp o) (hB : OpB o) :
    Calls Tryd.prog 14 #[opv o ao n c] w fun e w' => e = .returned (.string (bs (opL o))) ∧ Below w.heap.size w w' := by
  have A0 := hide (OBx.new w o ao n c)
  obtain ⟨kind, queue, app, ⟨am, ac, an, ad, ai⟩, cont, node, mem, cpu, conts⟩ := o
  simp only at hk
  subst hk
  have HE : bs [102, 105, 110, 105, 115, 104, 32] ++ bs (Lib.itoa app) = bs (opL ⟨1, queue, app, ⟨am, ac, an, ad, ai⟩, cont, node, mem, cpu, conts⟩) := by rw [bs_app]; simp [opL, opWords, Lib.join_cons, Lib.joinTail]
  have z : (bs (Lib.itoa app)).size ≤ 21 := by rw [bs_size]; exact Lib.itoa_length_le app hB.1.1 hB.1.2
  have CD := hide (fun wx => specDecText_any app wx hB.1.1 hB.1.2)
  have m : ¬ 9223372036854775807 < 7 + (bs (Lib.itoa app)).size := by omega
  obtain ⟨s, hs⟩ : ∃ s, bs (Lib.itoa app) = s := ⟨_, rfl⟩
  rw [hs] at HE z CD m
  have HE := hide HE
  clear hf hB hs
  go_enter Tryd.func14, Tryd.ntmps14
  go_wp2_with fail
  refine (unhide CD _).mono ?_
  rintro e wt ⟨rfl, rfl⟩
  go_wp2
  go_ret
  exact ⟨by rw [← unhide HE]; rfl, (unhide A0).2⟩

set_option maxRecDepth 100000 in
set_option maxHeartbeats 4000000 in
theorem specOp3_any (o : Opv) (ao : Option Addr) (n c : Nat) (w : World) (hk : o.kind = 3) (hf : FitOp o) (hB : OpB o) :
    Calls Tryd.prog 14 #[opv o ao n c] w fun e w' => e = .returned (.string (bs (opL o))) ∧ Below w.heap.size w w' := by
  have A0 := hide (OBx.new w o ao n c)
  obtain ⟨kind, queue, app, ⟨am, ac, an, ad, ai⟩, cont, node, mem, cpu, conts⟩ := o
  simp only at hk
  subst hk
  have HE : bs [102, 114, 101, 101, 32] ++ bs (Lib.itoa cont) = bs (opL ⟨3, queue, app, ⟨am, ac, an, ad, ai⟩, cont, node, mem, cpu, conts⟩) := by rw [bs_app]; simp [opL, opWords, Lib.join_cons, Lib.joinTail]
  have z : (bs (Lib.itoa cont)).size ≤ 21 := by rw [bs_size]; exact Lib.itoa_length_le cont hB.2.1.1 hB.2.1.2
  have CD := hide (fun wx => specDecText_any cont wx hB.2.1.1 hB.2.1.2)
  have m : ¬ 9223372036854775807 < 5 + (bs (Lib.itoa cont)).size := by omega
  obtain ⟨s, hs⟩ : ∃ s, bs (Lib.itoa cont) = s := ⟨_, rfl⟩
  rw [hs] at HE z CD m
  have HE := hide HE
  clear hf hB hs
  go_enter Tryd.func14, Tryd.ntmps14
  go_wp2_with fail
  refine (unhide CD _).mono ?_
  rintro e wt ⟨rfl, rfl⟩
  go_wp2
  go_ret
  exact ⟨by rw [← unhide HE]; rfl, (unhide A0).2⟩

set_option maxRecDepth 100000 in
set_option maxHeartbeats 4000000 in
theorem specOp6_any (o : Opv) (ao : Option Addr) (n c : Nat) (w : World) (hk : o.kind = 6) (hf : FitOp o) (hB : OpB o) :
    Calls Tryd.prog 14 #[opv o ao n c] w fun e w' => e = .returned (.string (bs (opL o))) ∧ Below w.heap.size w w' := by
  have A0 := hide (OBx.new w o ao n c)
  obtain ⟨kind, queue, app, ⟨am, ac, an, ad, ai⟩, cont, node, mem, cpu, conts⟩ := o
  simp only at hk
  subst hk
  clear hf hB
  go_enter Tryd.func14, Tryd.ntmps14
  go_wp2
  go_ret
  exact ⟨by simp [opL, opWords, Lib.join_cons, Lib.joinTail, bs], (unhide A0).2⟩

set_option maxRecDepth 100000 in
set_option maxHeartbeats 4000000 in
theorem specOpX_any (o : Opv) (ao : Option Addr) (n c : Nat) (w : World) (h0 : ¬ o.kind = 0) (h1 : ¬ o.kind = 1) (h2 : ¬ o.kind = 2) (h3 : ¬ o.kind = 3) (h4 : ¬ o.kind = 4) (h5 : ¬ o.kind = 5) (h6 : ¬ o.kind = 6) (h7 : ¬ o.kind = 7) :
    Calls Tryd.prog 14 #[opv o ao n c] w fun e w' => e = .returned (.string (bs (opL o))) ∧ Below w.heap.size w w' := by
  have A0 := hide (OBx.new w o ao n c)
  have HE : opL o = [] := by simp [opL, opWords, h0, h1, h2, h3, h4, h5, h6, h7, Lib.join_nil]
  rw [HE]
  obtain ⟨kind, queue, app, ⟨am, ac, an, ad, ai⟩, cont, node, mem, cpu, conts⟩ := o
  simp only at h0 h1 h2 h3 h4 h5 h6 h7
  clear HE
  go_enter Tryd.func14, Tryd.ntmps14
  go_wp2
  go_ret
  exact ⟨rfl, (unhide A0).2⟩

set_option maxRecDepth 100000 in
set_option maxHeartbeats 4000000 in
theorem specOp2_any (o : Opv) (ao : Option Addr) (n c : Nat) (w : World) (hk : o.kind = 2) (hf : FitOp o) (hB : OpB o) :
    Calls Tryd.prog 14 #[opv o ao n c] w fun e w' => e = .returned (.string (bs (opL o))) ∧ Below w.heap.size w w' := by
  have A0 := hide (OBx.new w o ao n c)
  obtain ⟨kind, queue, app, ⟨am, ac, an, ad, ai⟩, cont, node, mem, cpu, conts⟩ := o
  simp only at hk
  subst hk
  have z1 : (bs (Lib.itoa app)).size ≤ 21 := by rw [bs_size]; exact Lib.itoa_length_le app hB.1.1 hB.1.2
  have z2 : (resText am ac).size ≤ 43 := by rw [resText_bs, bs_size]; exact resL_len am ac hB.2.2.1.1 hB.2.2.1.2.1
  have z3 : (bs (Lib.itoa an)).size ≤ 21 := by rw [bs_size]; exact Lib.itoa_length_le an hB.2.2.1.2.2.1 hB.2.2.1.2.2.2
  have z4 : (bs ad).size ≤ 1048576 := by rw [bs_size]; exact hf.2.1
  have D1 := hide (fun wx (_ : True) => specDecText_any app wx hB.1.1 hB.1.2)
  have D2 := hide (fun wx => specResText_any am ac wx hB.2.2.1.1.1 hB.2.2.1.1.2 hB.2.2.1.2.1.1 hB.2.2.1.2.1.2)
  have D3 := hide (fun wx (_ : True) => specDecText_any an wx hB.2.2.1.2.2.1 hB.2.2.1.2.2.2)
  have HE0 : bs [97, 115, 107, 32] ++ bs (Lib.itoa app) ++ bs [32] ++ resText am ac ++ bs [32] ++ bs (Lib.itoa an) = bs (Lib.join [[97, 115, 107], Lib.itoa app, resL am ac, Lib.itoa an] [32]) := by
    rw [resText_bs, bs_app, bs_app, bs_app, bs_app, bs_app]; simp [Lib.join_cons, Lib.joinTail]
  have HE1 : ad = [] → bs (opL ⟨2, queue, app, ⟨am, ac, an, ad, ai⟩, cont, node, mem, cpu, conts⟩) = bs (Lib.join [[97, 115, 107], Lib.itoa app, resL am ac, Lib.itoa an] [32]) := fun h => by simp [opL, opWords, h]
  have HE2 : ad ≠ [] → bs (opL ⟨2, queue, app, ⟨am, ac, an, ad, ai⟩, cont, node, mem, cpu, conts⟩) = bs (Lib.join [[97, 115, 107], Lib.itoa app, resL am ac, Lib.itoa an] [32]) ++ bs [32] ++ bs ad := fun h => by
    have e : opL ⟨2, queue, app, ⟨am, ac, an, ad, ai⟩, cont, node, mem, cpu, conts⟩ = Lib.join ([[97, 115, 107], Lib.itoa app, resL am ac, Lib.itoa an] ++ [ad]) [32] := by simp [opL, opWords, h]
    rw [e, join_snoc _ _ (by simp), bs_app, bs_app]; simp
  rw [← HE0] at HE1 HE2
  clear HE0
  obtain ⟨t, ht⟩ : ∃ t, bs (opL ⟨2, queue, app, ⟨am, ac, an, ad, ai⟩, cont, node, mem, cpu, conts⟩) = t := ⟨_, rfl⟩
  rw [ht] at HE1 HE2 ⊢
  have R := OBx.read w ⟨2, queue, app, ⟨am, ac, an, ad, ai⟩, cont, node, mem, cpu, conts⟩ ao n c
  have hbe := bs_empty ad
  obtain ⟨s1, e1⟩ : ∃ s, bs (Lib.itoa app) = s := ⟨_, rfl⟩
  obtain ⟨s2, e2⟩ : ∃ s, resText am ac = s := ⟨_, rfl⟩
  obtain ⟨s3, e3⟩ : ∃ s, bs (Lib.itoa an) = s := ⟨_, rfl⟩
  rw [e1, e2, e3] at HE1 HE2
  rw [e1] at z1 D1
  rw [e2] at z2 D2
  rw [e3] at z3 D3
  have n1 : ¬ 9223372036854775807 < 4 + s1.size := by omega
  have n2 : ¬ 9223372036854775807 < 4 + s1.size + 1 := by omega
  have n3 : ¬ 9223372036854775807 < 4 + s1.size + 1 + s2.size := by omega
  have n4 : ¬ 9223372036854775807 < 4 + s1.size + 1 + s2.size + 1 := by omega
  have n5 : ¬ 9223372036854775807 < 4 + s1.size + 1 + s2.size + 1 + s3.size := by omega
  have n6 : ¬ 9223372036854775807 < 4 + s1.size + 1 + s2.size + 1 + s3.size + 1 := by omega
  have n7 : ¬ 9223372036854775807 < 4 + s1.size + 1 + s2.size + 1 + s3.size + 1 + (bs ad).size := by omega
  have HE1 := hide HE1
  have HE2 := hide HE2
  simp only at R
  clear hf hB ht e1 e2 e3
  go_enter Tryd.func14, Tryd.ntmps14
  go_wp2_with fail
  go_region_held3 (fun wx => OBx w ⟨2, queue, app, ⟨am, ac, an, ad, ai⟩, cont, node, mem, cpu, conts⟩ ao n c wx)
    (first | (with_reducible assumption) | exact (unhide A0).drew | exact OBx.call (by assumption) (by assumption))
    (first
    | (go_at_call_of 22 app; refine (unhide D1 _ trivial).mono ?_; rintro e wt ⟨rfl, rfl⟩; have SA := OBx.call (w := w) (o := ⟨2, queue, app, ⟨am, ac, an, ad, ai⟩, cont, node, mem, cpu, conts⟩) (ao := ao) (n := n) (c := c) (by assumption) (Below.refl _ _))
    | (go_at_call_of 22 an; refine (unhide D3 _ trivial).mono ?_; rintro e wt ⟨rfl, rfl⟩; have SA := OBx.call (w := w) (o := ⟨2, queue, app, ⟨am, ac, an, ad, ai⟩, cont, node, mem, cpu, conts⟩) (ao := ao) (n := n) (c := c) (by assumption) (Below.refl _ _))
    | (go_at_call 24; refine (unhide D2 _).mono ?_; rintro e wt ⟨rfl, hb⟩; have SA := OBx.call (w := w) (o := ⟨2, queue, app, ⟨am, ac, an, ad, ai⟩, cont, node, mem, cpu, conts⟩) (ao := ao) (n := n) (c := c) (by assumption) hb))
  have A1 := hide SA
  have k6 := (unhide A1).1.at 6
  simp at k6
  clear SA R A0
  by_cases hz : ad = []
  · rw [decide_eq_true hz] at hbe
    have HZ := hide (unhide HE1 hz)
    clear hz HE1 HE2
    go_wp2
    go_ret
    exact ⟨by rw [unhide HZ]; rfl, (unhide A1).2⟩
  · rw [decide_eq_false hz] at hbe
    have HZ := hide (unhide HE2 hz)
    clear hz HE1 HE2
    go_wp2
    go_ret
    exact ⟨by rw [unhide HZ]; rfl, (unhide A1).2⟩
end Go.Proofs.YtfhnjghjibklcaaDoor
