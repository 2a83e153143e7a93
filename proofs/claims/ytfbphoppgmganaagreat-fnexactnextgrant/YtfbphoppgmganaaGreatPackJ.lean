/-
  Several texts of this claim in one: OfQD, StdS, RatN, BlM, OrdV, SuitB, RoomM, MKey, UsedOnI, MacAt, FreeOnM, GrantM, BackM (pack.py put them together); each says in its own remark what is proved.
-/
import Derived.Test.YtfbphoppgmganaaGreatPartI
import Derived.Test.YtfbphoppgmganaaGreatPackC
import Derived.Test.YtfbphoppgmganaaGreatPackG
import Derived.Test.YtfbphoppgmganaaGreatUByI
import Derived.Deep.RegionHeld3
import Derived.Test.YtfbphoppgmganaaGreatPackA
import Derived.Test.YtfbphoppgmganaaGreatStAll
import Derived.Test.YtfbphoppgmganaaGreatPackE
import Derived.Test.YtfbphoppgmganaaGreatPackF
import Derived.Test.YtfbphoppgmganaaGreatPackH
/-
  What is due to a queue of a total, and the most that it may have: what the program's DueOf and DueOf answer; walks over the dump.
-/
namespace Go.Proofs.YtfbphoppgmganaaGreat
open Go.RowKit
set_option linter.unusedVariables false

set_option maxRecDepth 100000 in
set_option maxHeartbeats 1000000 in
theorem dueFn_any (w : World) (q : Q) :
    Calls Tryz.prog 221 #[qv q] w fun e w' => e = .returned (.int .i64 (fieldOf false q)) ∧ Below w.heap.size w w' := by
  go_enter Tryz.func221, Tryz.ntmps221
  go_wp2
  go_ret
  exact ⟨rfl, below_al (Below.refl _ _) _⟩

set_option maxRecDepth 100000 in
set_option maxHeartbeats 1000000 in
theorem implDueOf_any (ao : Option Addr) (len cap : Nat) (l : List Q) (nm : List UInt8) (a b : Int) (w : World) (h : QRow w ao len l) (hl : len ≤ 1048576) (hn : ∀ q ∈ l, q.name.length ≤ 1048576) (hc : len ≤ cap) :
    Calls Tryz.prog 154 #[.slice ao len cap, .string (bs nm), rv a b] w fun e w' => e = .returned (rv (ofR l nm a b false).1 (ofR l nm a b false).2) ∧ Below w.heap.size w w' := by
  have hmf : ∀ (fn : Fn) (first cap : Array Value) (w : World), (Instr.makeFunc fn first cap).run Tryz.prog w = .ok (.func fn first cap) w := fun _ _ _ _ => rfl
  have HB0 := hide (below_al (below_al (Below.refl _ w) (.cells #[.int .i64 a, .int .i64 b] 30)) (.cells #[.int .i64 0, .int .i64 0] 30))
  have HV2 := hide (var_new2 w 30 30 a b 0 0)
  have C := hide (partOf_any 221 (enters_of Tryz.func221 (by kernel_rfl) rfl) false (fun wx q => dueFn_any wx q) ao len cap l nm a b _ (h.below (unhide HB0)) hl hn hc)
  obtain ⟨⟨x, y⟩, hxy⟩ : ∃ p, ofR l nm a b false = p := ⟨_, rfl⟩
  rw [hxy] at C ⊢
  clear hxy h hn
  go_enter Tryz.func154, Tryz.ntmps154
  go_wp2_with fail
  refine (unhide C).mono ?_
  rintro e w1 ⟨rfl, hb⟩
  have V2 := (unhide HV2).below hb
  have k0 := V2.c0
  have k1 := V2.c1
  have k2 := V2.f 0
  have k3 := V2.f 1
  have k4 := V2.s0 (.int .i64 x)
  have k5 := V2.s1 (.int .i64 x) (.int .i64 y)
  have HB := hide (below_on (unhide HB0) hb)
  clear hb V2 HV2 HB0 C
  go_wp2
  refine bodyPost_ret (v := rv x y) (by simp [results, Tryz.results154, go_sem, k4, k5]) rfl ⟨rfl, ?_⟩
  repeat (first | exact unhide HB | refine below_al ?_ _ | refine Below.drew ?_ | refine below_sc ?_ _ _ _ (by omega))
end Go.Proofs.YtfbphoppgmganaaGreat

/-
  A leaf with what it uses and what is due: what the program's standingOf answers; a walk over the dump.
-/
namespace Go.Proofs.YtfbphoppgmganaaGreat
open Go.RowKit Go.Maps
set_option linter.unusedVariables false
set_option linter.unusedSimpArgs false

/-- a leaf with what it uses and what is due -/
def stOf (s : St) (nm : List UInt8) : SE := (nm, (usedByV s nm).1, (usedByV s nm).2, (dueV s nm).1, (dueV s nm).2)
/-- the state's box stands, and nothing of w has turned -/
def SB (w : World) (c : Array Value) (wx : World) : Prop := Blk wx w.heap.size c 40 ∧ Below w.heap.size w wx
theorem SB.call {w wx wy : World} {c : Array Value} (h : SB w c wx) (hb : Below wx.heap.size wx wy) : SB w c wy := ⟨h.1.below hb, below_on h.2 hb⟩

set_option maxRecDepth 100000 in
set_option maxHeartbeats 8000000 in
theorem standingOf_any (x : Sls) (s : St) (nm : List UInt8) (w : World) (h : SRow w x s) (hf : FitSt s) (hc : x.ql ≤ x.qc) (hw : WfSt s) :
    Calls Tryz.prog 232 #[sv x s, .string (bs nm)] w fun e w' => e = .returned (stv (stOf s nm)) ∧ Below w.heap.size w w' := by
  have hql : x.ql ≤ 1048576 := h.ql hf
  have hml : x.ml ≤ 1048576 := h.ml hf
  have CT := hide (fun wx (hb : Below w.heap.size w wx) => show Calls Tryz.prog 155 #[sv x s] wx (fun e w' => e = .returned (rv (totalV s).1 (totalV s).2) ∧ Below wx.heap.size wx w') from implTotal_any x s wx (h.2.2.1.below hb) hml)
  have CD := hide (fun wx (hb : Below w.heap.size w wx) => show Calls Tryz.prog 154 #[.slice x.qa x.ql x.qc, .string (bs nm), rv (totalV s).1 (totalV s).2] wx (fun e w' => e = .returned (rv (dueV s nm).1 (dueV s nm).2) ∧ Below wx.heap.size wx w') from implDueOf_any x.qa x.ql x.qc s.qs nm (totalV s).1 (totalV s).2 wx (h.1.below hb) hql (fun q hq => (hf.1.2 q hq).1) hc)
  have CU := hide (fun wx (hb : Below w.heap.size w wx) => implUsedBy_any x s nm wx (h.below hb) hf hc hw)
  obtain ⟨⟨tx, ty⟩, ht⟩ : ∃ t, totalV s = t := ⟨_, rfl⟩
  obtain ⟨⟨dx, dy⟩, hd⟩ : ∃ t, dueV s nm = t := ⟨_, rfl⟩
  obtain ⟨⟨ux, uy⟩, hu⟩ : ∃ t, usedByV s nm = t := ⟨_, rfl⟩
  have HO : stOf s nm = (nm, ux, uy, dx, dy) := by rw [stOf, hd, hu]
  rw [HO]
  rw [ht] at CT
  rw [ht, hd] at CD
  rw [hu] at CU
  clear h hf hc hw ht hd hu HO
  obtain ⟨qa, ql, qc, aa, al, ac, ma, ml, mc, ca, cl, cc⟩ := x
  obtain ⟨qs, clock, epoch, next, serial, apps, ms, cs⟩ := s
  simp only at CT CD CU hql hml
  have hb0 := (below_al (below_al (Below.refl _ w) (.cells (svc ⟨qa, ql, qc, aa, al, ac, ma, ml, mc, ca, cl, cc⟩ ⟨qs, clock, epoch, next, serial, apps, ms, cs⟩) 40)) (.cells #[.string ⟨#[]⟩, .int .i64 0, .int .i64 0, .int .i64 0, .int .i64 0] 279)).drew
  have SS0 := hide (show SB w (svc ⟨qa, ql, qc, aa, al, ac, ma, ml, mc, ca, cl, cc⟩ ⟨qs, clock, epoch, next, serial, apps, ms, cs⟩) _ from ⟨((blk_new w (svc ⟨qa, ql, qc, aa, al, ac, ma, ml, mc, ca, cl, cc⟩ ⟨qs, clock, epoch, next, serial, apps, ms, cs⟩) 40).al (.cells #[.string ⟨#[]⟩, .int .i64 0, .int .i64 0, .int .i64 0, .int .i64 0] 279)).drew, hb0⟩)
  have V0 := hide (show Blk ((w.alloc (.cells (svc ⟨qa, ql, qc, aa, al, ac, ma, ml, mc, ca, cl, cc⟩ ⟨qs, clock, epoch, next, serial, apps, ms, cs⟩) 40)).alloc (.cells #[.string ⟨#[]⟩, .int .i64 0, .int .i64 0, .int .i64 0, .int .i64 0] 279)).drew (w.heap.size + 1) #[.string ⟨#[]⟩, .int .i64 0, .int .i64 0, .int .i64 0, .int .i64 0] 279 from by have := blk_new (w.alloc (.cells (svc ⟨qa, ql, qc, aa, al, ac, ma, ml, mc, ca, cl, cc⟩ ⟨qs, clock, epoch, next, serial, apps, ms, cs⟩) 40)) #[.string ⟨#[]⟩, .int .i64 0, .int .i64 0, .int .i64 0, .int .i64 0] 279; rw [al_size] at this; exact this.drew)
  have R : ∀ wx, SB w (svc ⟨qa, ql, qc, aa, al, ac, ma, ml, mc, ca, cl, cc⟩ ⟨qs, clock, epoch, next, serial, apps, ms, cs⟩) wx → wx.cell? ⟨w.heap.size, 0, none⟩ = some (.slice qa ql qc) ∧ wx.cell? ⟨w.heap.size, 1, none⟩ = some (.int .i64 clock) ∧ wx.cell? ⟨w.heap.size, 2, none⟩ = some (.int .i64 epoch) ∧ wx.cell? ⟨w.heap.size, 3, none⟩ = some (.int .i64 next) ∧ wx.cell? ⟨w.heap.size, 4, none⟩ = some (.int .i64 serial) ∧ wx.cell? ⟨w.heap.size, 5, none⟩ = some (.slice aa al ac) ∧ wx.cell? ⟨w.heap.size, 6, none⟩ = some (.slice ma ml mc) ∧ wx.cell? ⟨w.heap.size, 7, none⟩ = some (.slice ca cl cc) := fun wx h => by
    have a0 := h.1.at 0; have a1 := h.1.at 1; have a2 := h.1.at 2; have a3 := h.1.at 3; have a4 := h.1.at 4; have a5 := h.1.at 5; have a6 := h.1.at 6; have a7 := h.1.at 7
    simp at a0 a1 a2 a3 a4 a5 a6 a7
    exact ⟨a0, a1, a2, a3, a4, a5, a6, a7⟩
  clear hb0
  go_enter Tryz.func232, Tryz.ntmps232
  go_wp2_with fail
  refine wp_region_held_drew (S := SB w (svc ⟨qa, ql, qc, aa, al, ac, ma, ml, mc, ca, cl, cc⟩ ⟨qs, clock, epoch, next, serial, apps, ms, cs⟩)) (by kernel_rfl) (unhide SS0) (fun S0 => ?_)
  refine takeD (i := 0) (d := some 5) (v := _) rfl rfl (by kernel_rfl) (by kernel_rfl) (by kernel_rfl) (fun _ _ _ h => h) (Or.inl ⟨by rfl, fun wz hz => by (go_simp; try with_reducible rfl)⟩) S0 ?_
  try simp only [Act.put, List.setIfInBounds_toArray, List.set_cons_zero, List.set_cons_succ]
  refine takeD (i := 1) (d := some 6) (v := _) rfl rfl (by kernel_rfl) (by kernel_rfl) (by kernel_rfl) (fun _ _ _ h => h) (Or.inl ⟨by rfl, fun wz hz => by (go_simp; try with_reducible rfl)⟩) S0 ?_
  try simp only [Act.put, List.setIfInBounds_toArray, List.set_cons_zero, List.set_cons_succ]
  refine takeD (i := 2) (d := some 7) (v := _) rfl rfl (by kernel_rfl) (by kernel_rfl) (by kernel_rfl) (fun _ _ _ h => h) (Or.inl ⟨by rfl, fun wz hz => by (go_simp; try with_reducible rfl)⟩) S0 ?_
  try simp only [Act.put, List.setIfInBounds_toArray, List.set_cons_zero, List.set_cons_succ]
  refine takeD (i := 4) (d := some 9) (v := _) rfl rfl (by kernel_rfl) (by kernel_rfl) (by kernel_rfl) (fun _ _ _ h => h) (Or.inl ⟨by rfl, fun wz hz => by (go_simp; try with_reducible rfl)⟩) S0 ?_
  try simp only [Act.put, List.setIfInBounds_toArray, List.set_cons_zero, List.set_cons_succ]
  refine takeD (i := 5) (d := some 10) (v := _) rfl rfl (by kernel_rfl) (by kernel_rfl) (by kernel_rfl) (fun _ _ _ h => h) (Or.inl ⟨by rfl, fun wz hz => by (go_simp; try with_reducible rfl)⟩) S0 ?_
  try simp only [Act.put, List.setIfInBounds_toArray, List.set_cons_zero, List.set_cons_succ]
  refine takeD (i := 6) (d := some 11) (v := _) rfl rfl (by kernel_rfl) (by kernel_rfl) (by kernel_rfl) (fun _ _ _ h => h) (Or.inl ⟨by rfl, fun wz hz => by (go_simp; try with_reducible rfl)⟩) S0 ?_
  try simp only [Act.put, List.setIfInBounds_toArray, List.set_cons_zero, List.set_cons_succ]
  refine takeD (i := 7) (d := some 12) (v := _) rfl rfl (by kernel_rfl) (by kernel_rfl) (by kernel_rfl) (fun _ _ _ h => h) (Or.inl ⟨by rfl, fun wz hz => by (go_simp; try with_reducible rfl)⟩) S0 ?_
  try simp only [Act.put, List.setIfInBounds_toArray, List.set_cons_zero, List.set_cons_succ]
  refine wpAnyH_ready (rs := [3]) (by kernel_rfl) (by simp) (AllReadyH.cons rfl (fun K hK => ?_) AllReadyH.nil)
  go_simp
  refine (unhide CU _ S0.2).mono ?_
  rintro e w1 ⟨rfl, hb⟩
  have S1 := SB.call S0 hb
  have V1 := hide ((unhide V0).below hb)
  clear hb V0
  go_wp2_with fail
  refine hK.out _ _ S1 (fun S0 => ?_)
  clear hK K S1
  try simp only [Act.put, List.setIfInBounds_toArray, List.set_cons_zero, List.set_cons_succ]
  refine wpAnyH_ready (rs := [8]) (by kernel_rfl) (by simp) (AllReadyH.cons rfl (fun K hK => ?_) AllReadyH.nil)
  go_simp
  refine (unhide CT _ S0.2).mono ?_
  rintro e w2 ⟨rfl, hb⟩
  have S1 := SB.call S0 hb
  have V2 := hide ((unhide V1).below hb)
  clear hb V1
  go_wp2_with fail
  refine hK.out _ _ S1 (fun S0 => ?_)
  clear hK K S1
  try simp only [Act.put, List.setIfInBounds_toArray, List.set_cons_zero, List.set_cons_succ]
  refine wpAnyH_ready (rs := [9]) (by kernel_rfl) (by simp) (AllReadyH.cons rfl (fun K hK => ?_) AllReadyH.nil)
  go_simp
  refine (unhide CD _ S0.2).mono ?_
  rintro e w3 ⟨rfl, hb⟩
  have S1 := SB.call S0 hb
  have V3 := hide ((unhide V2).below hb)
  clear hb V2
  go_wp2_with fail
  refine hK.out _ _ S1 (fun S0 => ?_)
  clear hK K S1
  try simp only [Act.put, List.setIfInBounds_toArray, List.set_cons_zero, List.set_cons_succ]
  refine takeD (i := 10) (d := some 15) (v := _) rfl rfl (by kernel_rfl) (by kernel_rfl) (by kernel_rfl) (fun _ _ _ h => h) (Or.inl ⟨by rfl, fun wz hz => by (go_simp; try with_reducible rfl)⟩) S0 ?_
  try simp only [Act.put, List.setIfInBounds_toArray, List.set_cons_zero, List.set_cons_succ]
  refine takeD (i := 11) (d := some 16) (v := _) rfl rfl (by kernel_rfl) (by kernel_rfl) (by kernel_rfl) (fun _ _ _ h => h) (Or.inl ⟨by rfl, fun wz hz => by (go_simp; try with_reducible rfl)⟩) S0 ?_
  try simp only [Act.put, List.setIfInBounds_toArray, List.set_cons_zero, List.set_cons_succ]
  refine wpAnyH_ready (rs := [12]) (by kernel_rfl) (by simp) (AllReadyH.cons rfl (fun K hK => ?_) AllReadyH.nil)
  have bw := unhide V3
  have c0 := bw.at 0; have c1 := bw.at 1; have c2 := bw.at 2; have c3 := bw.at 3; have c4 := bw.at 4
  have f0 := bw.f 0; have f1 := bw.f 1; have f2 := bw.f 2; have f3 := bw.f 3; have f4 := bw.f 4
  simp at c0 c1 c2 c3 c4
  have bz := ((((bw.set 0 (.string (bs nm))).set 1 (.int .i64 ux)).set 2 (.int .i64 uy)).set 3 (.int .i64 dx)).set 4 (.int .i64 dy)
  have z0 := bz.at 0; have z1 := bz.at 1; have z2 := bz.at 2; have z3 := bz.at 3; have z4 := bz.at 4
  simp at z0 z1 z2 z3 z4
  have hn : w.heap.size ≠ w.heap.size + 1 := by omega
  have S1 : SB w (svc ⟨qa, ql, qc, aa, al, ac, ma, ml, mc, ca, cl, cc⟩ ⟨qs, clock, epoch, next, serial, apps, ms, cs⟩) (((((w3.setCell ⟨w.heap.size + 1, 0, none⟩ (.string (bs nm))).setCell ⟨w.heap.size + 1, 1, none⟩ (.int .i64 ux)).setCell ⟨w.heap.size + 1, 2, none⟩ (.int .i64 uy)).setCell ⟨w.heap.size + 1, 3, none⟩ (.int .i64 dx)).setCell ⟨w.heap.size + 1, 4, none⟩ (.int .i64 dy)) := ⟨((((S0.1.other _ _ _ hn).other _ _ _ hn).other _ _ _ hn).other _ _ _ hn).other _ _ _ hn, below_sc (below_sc (below_sc (below_sc (below_sc S0.2 _ _ _ (by omega)) _ _ _ (by omega)) _ _ _ (by omega)) _ _ _ (by omega)) _ _ _ (by omega)⟩
  clear bw bz V3
  go_simp
  go_wp2_with fail
  refine hK.out _ _ S1 (fun S0 => ?_)
  clear hK K
  try simp only [Act.put, List.setIfInBounds_toArray, List.set_cons_zero, List.set_cons_succ]
  refine wpAnyH_done (by kernel_rfl) ?_ _
  have HB := hide S1.2
  clear S1 S0 R CU CT CD SS0
  go_wp2
  refine bodyPost_ret (v := stv (nm, ux, uy, dx, dy)) (by simp [results, Tryz.results232, go_sem, z0, z1, z2, z3, z4]) rfl ⟨rfl, unhide HB⟩
end Go.Proofs.YtfbphoppgmganaaGreat

/-
  Of three ratios: what is not less than one that is not less is not less.
-/
namespace Go.Proofs.YtfbphoppgmganaaGreat
set_option linter.unusedVariables false

theorem less_ntrans {a b c d e f : Int} (hb : Small b) (hd : Small d) (hf : Small f) (h : less c d a b = false) (k : less e f c d = false) : less e f a b = false := by
  unfold less at *
  by_cases f0 : f = 0
  · simp [f0]
  · by_cases d0 : d = 0
    · simp [d0, f0] at k
    · by_cases b0 : b = 0
      · simp [b0, d0] at h
      · simp only [b0, d0, f0, if_false, decide_eq_false_iff_not, Int.not_lt] at h k ⊢
        have pb : 0 ≤ b := hb.1
        have pf : 0 ≤ f := hf.1
        have pd : 0 < d := by have := hd.1; omega
        have h1 := Int.mul_le_mul_of_nonneg_right h pf
        have h2 := Int.mul_le_mul_of_nonneg_right k pb
        have e1 : a * d * f = a * f * d := by rw [Int.mul_assoc, Int.mul_comm d f, ← Int.mul_assoc]
        have e2 : c * b * f = c * f * b := by rw [Int.mul_assoc, Int.mul_comm b f, ← Int.mul_assoc]
        have e3 : e * d * b = e * b * d := by rw [Int.mul_assoc, Int.mul_comm d b, ← Int.mul_assoc]
        have h3 : a * f * d ≤ e * b * d := by rw [← e1, ← e3]; rw [e2] at h1; exact Int.le_trans h1 h2
        exact Int.le_of_mul_le_mul_right h3 pd
end Go.Proofs.YtfbphoppgmganaaGreat

/-
  Texts by their bytes are in one order.
-/
namespace Go.Proofs.YtfbphoppgmganaaGreat
open Go.RowKit
set_option linter.unusedVariables false

theorem bl_irr : ∀ a : List UInt8, Op.bytesLess a a = false
  | [] => rfl
  | c :: t => by simp [Op.bytesLess, bl_irr t]
theorem bl_trans : ∀ a b c : List UInt8, Op.bytesLess a b = true → Op.bytesLess b c = true → Op.bytesLess a c = true
  | _, [], _, h, _ => by simp [Op.bytesLess] at h
  | _, _ :: _, [], _, h => by simp [Op.bytesLess] at h
  | [], _ :: _, _ :: _, _, _ => by simp [Op.bytesLess]
  | x :: a, y :: b, z :: c, h, k => by
    simp only [Op.bytesLess, Bool.or_eq_true, Bool.and_eq_true, decide_eq_true_eq, beq_iff_eq] at h k ⊢
    rcases h with h | ⟨rfl, h⟩
    · rcases k with k | ⟨rfl, k⟩
      · exact .inl (UInt8.lt_trans h k)
      · exact .inl h
    · rcases k with k | ⟨rfl, k⟩
      · exact .inl k
      · exact .inr ⟨rfl, bl_trans a b c h k⟩
theorem bl_tri : ∀ a b : List UInt8, Op.bytesLess a b = false → a ≠ b → Op.bytesLess b a = true
  | [], [], _, h => absurd rfl h
  | [], _ :: _, h, _ => by simp [Op.bytesLess] at h
  | _ :: _, [], _, _ => by simp [Op.bytesLess]
  | x :: a, y :: b, h, k => by
    simp only [Op.bytesLess, Bool.or_eq_false_iff, Bool.and_eq_false_iff, decide_eq_false_iff_not, beq_eq_false_iff_ne] at h
    simp only [Op.bytesLess, Bool.or_eq_true, Bool.and_eq_true, decide_eq_true_eq, beq_iff_eq]
    by_cases hxy : x = y
    · subst hxy
      right
      refine ⟨rfl, bl_tri a b ?_ (fun e => k (by rw [e]))⟩
      rcases h.2 with h2 | h2
      · exact absurd rfl h2
      · exact h2
    · left
      have h1 := h.1
      have : x.toNat ≠ y.toNat := fun e => hxy (UInt8.toNat_inj.1 e)
      rw [UInt8.lt_iff_toNat_lt] at h1 ⊢
      omega
end Go.Proofs.YtfbphoppgmganaaGreat

/-
  The leaves in the order in which they come: in plain words; what is taken off a heap one by one is that order.
-/
namespace Go.Proofs.YtfbphoppgmganaaGreat
open Go.RowKit
set_option linter.unusedVariables false

theorem less_asym {a b c d : Int} (h : less a b c d = true) : less c d a b = false := by
  unfold less at *
  by_cases b0 : b = 0
  · simp [b0] at h
  · by_cases d0 : d = 0
    · simp [d0]
    · simp only [b0, d0, if_false, decide_eq_true_eq] at h ⊢
      simp only [decide_eq_false_iff_not]
      omega
theorem less_irr (a b : Int) : less a b a b = false := by
  unfold less
  by_cases b0 : b = 0
  · simp [b0]
  · simp [b0]
theorem lessWeak : OrdM.Weak lessP where
  irr := fun a => less_irr _ _
  asym := fun a b h => less_asym h
  ntrans := fun a b c h k => less_ntrans (ratio_small ..).2 (ratio_small ..).2 (ratio_small ..).2 h k
theorem blNames : OrdM.Names Op.bytesLess where
  irr := bl_irr
  trans := bl_trans
  tri := bl_tri
/-- x comes no later than y -/
def leS (x y : SE) : Prop := aheadS y x = false
theorem leS_order : HeapM.Order leS where
  trans := fun x y z h k => OrdM.ahead_ntrans lessWeak blNames h k
  total := fun x y => by
    cases h : aheadS y x with
    | false => exact .inl h
    | true => exact .inr (OrdM.ahead_asym lessWeak blNames h)
theorem leS_1 : ∀ x y, aheadS x y = true → leS x y := fun x y h => OrdM.ahead_asym lessWeak blNames h
theorem leS_2 : ∀ x y, aheadS x y = false → leS y x := fun x y h => h
/-- which of two leaves of a state comes ahead -/
def befN (s : St) (a b : List UInt8) : Bool := aheadS (stOf s a) (stOf s b)
theorem befN_asym (s : St) (a b : List UInt8) (h : befN s a b = true) : befN s b a = false := OrdM.ahead_asym lessWeak blNames h
theorem befN_ntrans (s : St) (a b c : List UInt8) (h : befN s b a = false) (k : befN s c b = false) : befN s c a = false := OrdM.ahead_ntrans lessWeak blNames h k
theorem befN_anti (s : St) (a b : List UInt8) (h : befN s b a = false) (k : befN s a b = false) : a = b := OrdM.ahead_anti (x := stOf s a) (y := stOf s b) lessWeak blNames h k
/-- names put in their places, one by one -/
def insP (p : List UInt8 → List UInt8 → Bool) (l : List (List UInt8)) (o : List (List UInt8)) : List (List UInt8) := l.foldl (fun o x => OrdM.ins p x o) o
theorem insP_perm (p : List UInt8 → List UInt8 → Bool) : ∀ (l o : List (List UInt8)), (insP p l o).Perm (l ++ o)
  | [], o => List.Perm.refl _
  | x :: t, o => by
    refine (insP_perm p t (OrdM.ins p x o)).trans ?_
    refine (List.Perm.append_left t (OrdM.ins_perm _ x o)).trans ?_
    exact List.perm_middle
theorem insP_sorted {p : List UInt8 → List UInt8 → Bool} (asym : ∀ a b, p a b = true → p b a = false) (nt : ∀ a b c, p b a = false → p c b = false → p c a = false) : ∀ (l o : List (List UInt8)), HeapM.Sorted (fun a b => p b a = false) o → HeapM.Sorted (fun a b => p b a = false) (insP p l o)
  | [], o, h => h
  | x :: t, o, h => insP_sorted asym nt t _ (OrdM.ins_sorted asym nt x o h)
theorem insP_snoc (p : List UInt8 → List UInt8 → Bool) (l : List (List UInt8)) (x : List UInt8) : insP p (l ++ [x]) [] = OrdM.ins p x (insP p l []) := by
  rw [insP, List.foldl_append]; rfl
/-- the leaves in their order -/
def orderV (s : St) : List (List UInt8) := insP (befN s) (leavesOf s.qs) []
theorem orderV_perm (s : St) : (orderV s).Perm (leavesOf s.qs) := by
  have := insP_perm (befN s) (leavesOf s.qs) []
  rw [List.append_nil] at this
  exact this
theorem orderV_len (s : St) : (orderV s).length ≤ s.qs.length := by
  rw [(orderV_perm s).length_eq]
  exact leavesOf_len _
theorem order_unique (s : St) (N : List (List UInt8)) (h : HeapM.Sorted (fun a b => befN s b a = false) N) (hp : N.Perm (leavesOf s.qs)) : N = orderV s :=
  HeapM.sorted_unique (befN_anti s) _ _ h (insP_sorted (befN_asym s) (befN_ntrans s) _ _ trivial) (hp.trans (orderV_perm s).symm)
theorem sorted_fst (s : St) : ∀ P : List SE, (∀ x ∈ P, x = stOf s x.1) → HeapM.Sorted leS P → HeapM.Sorted (fun a b => befN s b a = false) (P.map Prod.fst)
  | [], _, _ => trivial
  | x :: t, hx, h => ⟨fun y hy => by
      obtain ⟨z, hz, rfl⟩ := List.mem_map.1 hy
      have h1 := h.1 z hz
      unfold leS at h1
      rw [hx x (by simp), hx z (by simp [hz])] at h1
      exact h1, sorted_fst s t (fun z hz => hx z (by simp [hz])) h.2⟩
/-- all that was taken off a heap of these leaves, one by one -/
theorem order_taken (s : St) (P : List SE) (h : HeapM.Sorted leS P) (hp : P.Perm ((leavesOf s.qs).map (stOf s))) : P.map Prod.fst = orderV s := by
  refine order_unique s _ (sorted_fst s P (fun x hx => ?_) h) ?_
  · obtain ⟨n, _, rfl⟩ := List.mem_map.1 (hp.subset hx)
    rfl
  · have := hp.map Prod.fst
    rw [List.map_map] at this
    have e : (Prod.fst ∘ stOf s) = id := by funext n; rfl
    rw [e, List.map_id] at this
    exact this
/-- the same, one queue after the other, each in its place -/
def orderF (s : St) (k : Nat) : List (List UInt8) := insP (befN s) (((s.qs.take k).map Q.name).filter (leaf s.qs)) []
theorem orderF_end (s : St) {k : Nat} (h : s.qs.length ≤ k) : orderF s k = orderV s := by
  rw [orderF, List.take_of_length_le h]; rfl
theorem orderF_step (s : St) {k : Nat} (h : k < s.qs.length) : orderF s (k + 1) = if leaf s.qs s.qs[k].name = true then OrdM.ins (befN s) s.qs[k].name (orderF s k) else orderF s k := by
  rw [orderF, List.take_succ_eq_append_getElem h, List.map_append, List.filter_append]
  cases hb : leaf s.qs s.qs[k].name with
  | true =>
    rw [if_pos rfl]
    simp only [List.map_cons, List.map_nil, List.filter_cons, hb, if_true, List.filter_nil]
    rw [insP_snoc]; rfl
  | false =>
    rw [if_neg (by simp)]
    simp only [List.map_cons, List.map_nil, List.filter_cons, hb, List.filter_nil]
    rw [if_neg (by simp), List.append_nil]; rfl
theorem orderF_len (s : St) (k : Nat) : (orderF s k).length ≤ k := by
  rw [orderF, (insP_perm _ _ _).length_eq, List.append_nil]
  refine Nat.le_trans (List.length_filter_le _ _) ?_
  simp
  omega
theorem stOf_wf (s : St) (nm : List UInt8) : Wf4 (stOf s nm).2.1 (stOf s nm).2.2.1 (stOf s nm).2.2.2.1 (stOf s nm).2.2.2.2 := by
  have h1 := resOk_small (used_ok s nm)
  have h2 := resOk_small (due_ok s nm)
  have w : ∀ x : Int, Small x → (Lit.int .i64 x).wf = true := fun x hx => by
    obtain ⟨a, b⟩ := hx
    have h1 : (-9223372036854775808 : Int) ≤ x := by omega
    have h2 : x ≤ 9223372036854775807 := by omega
    simp only [Lit.wf, Bool.and_eq_true, decide_eq_true_eq]
    exact ⟨h1, h2⟩
  exact ⟨w _ h1.1, w _ h1.2, w _ h2.1, w _ h2.2⟩
end Go.Proofs.YtfbphoppgmganaaGreat

/-
  Whether an ask suits a machine: what the program's and the model's Suits answer, and an ask that comes in as an argument; walks over the dump.
-/
namespace Go.Proofs.YtfbphoppgmganaaGreat
open Go.ChangeShapes Go.WideShapes Go.ChangeAt Go.RowKit
set_option linter.unusedVariables false

def suitsV (q : Ask) (nm : List UInt8) : Bool := decide (q.node = []) || (decide (q.node = nm) || decide (3 ≤ q.missed))

set_option maxRecDepth 100000 in
set_option maxHeartbeats 1000000 in
theorem implSuits_any (q : Ask) (nm : List UInt8) (w : World) :
    Calls Tryz.prog 139 #[askv q, .string (bs nm)] w fun e w' => e = .returned (.bool (suitsV q nm)) ∧ Below w.heap.size w w' := by
  obtain ⟨x0, x1, x2, nd, x4⟩ := q
  have hbe := bs_eq nd nm
  have hbz := bs_empty nd
  simp only [suitsV]
  by_cases h1 : nd = [] <;> by_cases h2 : nd = nm <;> by_cases h3 : 3 ≤ x4
  all_goals
    first | rw [decide_eq_true h1] at hbz ⊢ | rw [decide_eq_false h1] at hbz ⊢
    first | rw [decide_eq_true h2] at hbe ⊢ | rw [decide_eq_false h2] at hbe ⊢
    first | rw [decide_eq_true h3] | rw [decide_eq_false h3]
    clear h1 h2
    go_enter Tryz.func139, Tryz.ntmps139
    go_wp2
    go_ret
    refine ⟨rfl, ?_⟩
    repeat (first | exact Below.refl _ _ | refine below_al ?_ _ | refine Below.drew ?_ | refine below_sc ?_ _ _ _ (by omega))

set_option maxRecDepth 100000 in
set_option maxHeartbeats 1000000 in
theorem specSuits_any (q : Ask) (nm : List UInt8) (w : World) :
    Calls Tryz.prog 64 #[askv q, .string (bs nm)] w fun e w' => e = .returned (.bool (suitsV q nm)) ∧ Below w.heap.size w w' := by
  obtain ⟨x0, x1, x2, nd, x4⟩ := q
  have hbe := bs_eq nd nm
  have hbz := bs_empty nd
  simp only [suitsV]
  by_cases h1 : nd = [] <;> by_cases h2 : nd = nm <;> by_cases h3 : 3 ≤ x4
  all_goals
    first | rw [decide_eq_true h1] at hbz ⊢ | rw [decide_eq_false h1] at hbz ⊢
    first | rw [decide_eq_true h2] at hbe ⊢ | rw [decide_eq_false h2] at hbe ⊢
    first | rw [decide_eq_true h3] | rw [decide_eq_false h3]
    clear h1 h2
    go_enter Tryz.func64, Tryz.ntmps64
    go_wp2
    go_ret
    refine ⟨rfl, ?_⟩
    repeat (first | exact Below.refl _ _ | refine below_al ?_ _ | refine Below.drew ?_ | refine below_sc ?_ _ _ _ (by omega))

set_option maxRecDepth 100000 in
theorem open_askv {H : Type} {enc : TypeId × Value → H} {W : World} {base b0 : Nat} {r : Reach} {sp : Nat → Bool} {held : Bool} {v : Value} {d : DataW H} {p : List MemPlace}
    (hv : Value.okWide Tryz.prog W r b0 59 v) (h : DataW.Trod enc Tryz.prog W base sp held 59 v d p) :
    ∃ q : Ask, v = askv q ∧ AskFit q := by
  obtain ⟨cs, rfl, hsz⟩ := okWide_struct Tryz.underlying59 hv
  obtain ⟨fuel, hf⟩ := h
  obtain ⟨l⟩ := cs
  have hcells : (Value.agg ⟨l⟩).cells.toList = l := by simp [Value.cells]
  rw [hcells] at hf
  obtain ⟨q, rfl, hq⟩ := open_ask1 hf
  exact ⟨q, rfl, hq⟩
end Go.Proofs.YtfbphoppgmganaaGreat

/-
  Whether a queue has room for an amount: in plain words; the two ways to ask are one.
-/
namespace Go.Proofs.YtfbphoppgmganaaGreat
open Go.RowKit
set_option linter.unusedVariables false

def mostV (s : St) (x : List UInt8) : Int × Int := ofR s.qs x (totalV s).1 (totalV s).2 true
def roomAt (s : St) (rx ry : Int) (x : List UInt8) : Bool :=
  bothOk 1 (usedByV s x).1 (usedByV s x).2 rx ry && within ((usedByV s x).1 + 1 * rx) ((usedByV s x).2 + 1 * ry) (mostV s x).1 (mostV s x).2
def roomV (s : St) (nm : List UInt8) (rx ry : Int) : Bool := decide (0 < (path s.qs nm).length) && (path s.qs nm).all (roomAt s rx ry)
/-- what is left on a path, and whether there is such -/
def leftFrom (s : St) : List (List UInt8) → Int → Int → Int × Int × Bool
  | [], a, b => (a, b, true)
  | x :: t, a, b => if bothOk (-1) (mostV s x).1 (mostV s x).2 (usedByV s x).1 (usedByV s x).2 = true then leftFrom s t (min a ((mostV s x).1 + -1 * (usedByV s x).1)) (min b ((mostV s x).2 + -1 * (usedByV s x).2)) else (0, 0, false)
theorem leftFrom_step {s : St} {l : List (List UInt8)} {k : Nat} (h : k < l.length) (a b : Int) : leftFrom s (l.drop k) a b = if bothOk (-1) (mostV s l[k]).1 (mostV s l[k]).2 (usedByV s l[k]).1 (usedByV s l[k]).2 = true then leftFrom s (l.drop (k + 1)) (min a ((mostV s l[k]).1 + -1 * (usedByV s l[k]).1)) (min b ((mostV s l[k]).2 + -1 * (usedByV s l[k]).2)) else (0, 0, false) := by
  rw [List.drop_eq_getElem_cons h, leftFrom]
theorem leftFrom_end {s : St} {l : List (List UInt8)} {k : Nat} (h : l.length ≤ k) (a b : Int) : leftFrom s (l.drop k) a b = (a, b, true) := by
  rw [List.drop_of_length_le h]; rfl
theorem room_yes (m1 m2 u1 u2 rx ry : Int) (hr : resOk rx ry = true) (hb : bothOk (-1) m1 m2 u1 u2 = true) : (bothOk 1 u1 u2 rx ry && within (u1 + 1 * rx) (u2 + 1 * ry) m1 m2) = (decide (rx ≤ m1 + -1 * u1) && decide (ry ≤ m2 + -1 * u2)) := by
  rw [Bool.eq_iff_iff]
  simp only [bothOk, within, resOk, inB, Bool.and_eq_true, decide_eq_true_eq] at hr hb ⊢
  omega
theorem room_no (m1 m2 u1 u2 rx ry : Int) (hr : resOk rx ry = true) (hb : bothOk (-1) m1 m2 u1 u2 = false) : (bothOk 1 u1 u2 rx ry && within (u1 + 1 * rx) (u2 + 1 * ry) m1 m2) = false := by
  rw [Bool.eq_false_iff] at hb ⊢
  intro h
  apply hb
  simp only [bothOk, within, resOk, inB, Bool.and_eq_true, decide_eq_true_eq] at hr h ⊢
  omega
theorem roomAt_yes {s : St} {rx ry : Int} {x : List UInt8} (hr : resOk rx ry = true) (hb : bothOk (-1) (mostV s x).1 (mostV s x).2 (usedByV s x).1 (usedByV s x).2 = true) : roomAt s rx ry x = (decide (rx ≤ (mostV s x).1 + -1 * (usedByV s x).1) && decide (ry ≤ (mostV s x).2 + -1 * (usedByV s x).2)) := room_yes _ _ _ _ _ _ hr hb
theorem roomAt_no {s : St} {rx ry : Int} {x : List UInt8} (hr : resOk rx ry = true) (hb : bothOk (-1) (mostV s x).1 (mostV s x).2 (usedByV s x).1 (usedByV s x).2 = false) : roomAt s rx ry x = false := room_no _ _ _ _ _ _ hr hb
theorem room_left {s : St} {rx ry : Int} (hr : resOk rx ry = true) : ∀ (ps : List (List UInt8)) (a b : Int), resOk a b = true → ((leftFrom s ps a b).2.2 && within rx ry (leftFrom s ps a b).1 (leftFrom s ps a b).2.1) = (decide (rx ≤ a) && decide (ry ≤ b) && ps.all (roomAt s rx ry))
  | [], a, b, h => by rw [Bool.eq_iff_iff]; simp [leftFrom, within, hr, h]; exact ⟨fun h => ⟨of_decide_eq_true h.1, of_decide_eq_true h.2⟩, fun h => ⟨decide_eq_true h.1, decide_eq_true h.2⟩⟩
  | x :: t, a, b, h => by
    rw [leftFrom, List.all_cons]
    cases hb : bothOk (-1) (mostV s x).1 (mostV s x).2 (usedByV s x).1 (usedByV s x).2 with
    | true =>
      rw [if_pos rfl, room_left hr t _ _ ?_, roomAt_yes hr hb]
      · rw [Bool.eq_iff_iff]
        simp only [Bool.and_eq_true, decide_eq_true_eq]
        constructor
        · rintro ⟨⟨h1, h2⟩, h3⟩
          exact ⟨⟨by omega, by omega⟩, ⟨by omega, by omega⟩, h3⟩
        · rintro ⟨⟨h1, h2⟩, ⟨h3, h4⟩, h5⟩
          exact ⟨⟨by omega, by omega⟩, h5⟩
      · simp only [bothOk, resOk, inB, Bool.and_eq_true, decide_eq_true_eq] at h hb ⊢
        omega
    | false =>
      rw [if_neg (by simp), roomAt_no hr hb]
      simp
theorem room_eq (s : St) (nm : List UInt8) (rx ry : Int) : roomV s nm rx ry = ((leftFrom s (path s.qs nm) 1000000000 1000000000).2.2 && decide (0 < (path s.qs nm).length) && within rx ry (leftFrom s (path s.qs nm) 1000000000 1000000000).1 (leftFrom s (path s.qs nm) 1000000000 1000000000).2.1) := by
  rw [roomV]
  cases hr : resOk rx ry with
  | false =>
    have h1 : ∀ a b, within rx ry a b = false := fun a b => by rw [within, hr]; rfl
    rw [h1, Bool.and_false]
    cases hp : path s.qs nm with
    | nil => simp
    | cons x t =>
      have h2 : roomAt s rx ry x = false := by rw [roomAt, bothOk, hr]; simp
      simp [h2]
  | true =>
    have e := room_left (s := s) hr (path s.qs nm) 1000000000 1000000000 (by decide)
    have hr' := hr
    simp only [resOk, inB, Bool.and_eq_true, decide_eq_true_eq] at hr'
    rw [decide_eq_true (show rx ≤ 1000000000 by omega), decide_eq_true (show ry ≤ 1000000000 by omega)] at e
    simp only [Bool.true_and] at e
    rw [← e]
    cases (leftFrom s (path s.qs nm) 1000000000 1000000000).2.2 <;> simp [Bool.and_comm]
/-- behind the box of a state and that of an amount -/
def roomW (w : World) (c : Array Value) (rx ry : Int) : World := (w.alloc (.cells c 40)).alloc (.cells #[.int .i64 rx, .int .i64 ry] 30)
theorem roomW_below (w : World) (c : Array Value) (rx ry : Int) : Below w.heap.size w (roomW w c rx ry) := below_al (below_al (Below.refl _ w) _) _
theorem roomW_box (w : World) (c : Array Value) (rx ry : Int) : Blk (roomW w c rx ry) w.heap.size c 40 := (blk_new w c _).al _
theorem roomW_var (w : World) (c : Array Value) (rx ry : Int) : Var (roomW w c rx ry) 30 (w.heap.size + 1) rx ry := by
  have := var_new (w.alloc (.cells c 40)) 30 rx ry
  rwa [al_size] at this
end Go.Proofs.YtfbphoppgmganaaGreat

/-
  The map of machines by a key of name and number: its keys, its elements, and what it is known to hold.
-/
namespace Go.Proofs.YtfbphoppgmganaaGreat
open Go.RowKit Go.Maps
set_option linter.unusedVariables false

/-- how a machine reads -/
def md (m : Mac) : DataW Unit := .agg [.lit (.string m.name), .lit (.int .i64 m.mem), .lit (.int .i64 m.cpu), .lit (.int .i64 m.seen)]
def macElem : Value → Option (DataW Unit × List MemPlace)
  | .agg cs => match cs.toList with
    | [.string s, .int .i64 x, .int .i64 y, .int .i64 z] => some (md ⟨s.data.toList, x, y, z⟩, [])
    | _ => none
  | _ => none
theorem macElem_mk (m : Mac) : macElem (macv m) = some (md m, []) := by
  obtain ⟨nm, x, y, z⟩ := m
  simp [macElem, bs]
theorem macElem_inv {v : Value} {m : Mac} {ps : List MemPlace} (h : macElem v = some (md m, ps)) : v = macv m := by
  unfold macElem at h
  split at h
  · rename_i cs
    split at h
    · rename_i s x y z e
      have e2 : cs = #[.string s, .int .i64 x, .int .i64 y, .int .i64 z] := by cases cs; simpa using e
      obtain ⟨nm, a, b, c⟩ := m
      simp [md] at h
      obtain ⟨⟨h1, h2, h3, h4⟩, _⟩ := h
      subst h1 h2 h3 h4
      rw [e2]
      simp [macv, bs_data]
    · cases h
  · cases h
def findM (nm : List UInt8) (l : List Mac) : Option Mac := l.find? (fun m => decide (m.name = nm))
/-- the map holds, for every name, the first machine of the list that has it -/
def KnownM (l : List Mac) (D : DataW Unit) : Prop := ∀ nm kl, keyOf Tryz.prog 191 (keyv nm 0) = some kl → Maps.has D kl = (findM nm l).isSome ∧ ∀ m, findM nm l = some m → ∀ zd, D.atKey kl zd = md m
theorem knownM_empty : KnownM [] (.map []) := fun nm kl _ => ⟨by simp [Maps.has, findM], fun m h => by simp [findM] at h⟩
theorem KnownM.put {l : List Mac} {D : DataW Unit} (h : KnownM l D) (hD : IsMap D) {m : Mac} {kl : Lit} (hk : keyOf Tryz.prog 191 (keyv m.name 0) = some kl) : KnownM (m :: l) (D.put kl (md m)) := fun nm kl' hk' => by
  by_cases e : kl' = kl
  · subst e
    have := keyLaw.inj hk hk'
    simp [keyv] at this
    have hn : m.name = nm := by
      have h1 := congrArg (fun b : ByteArray => b.data.toList) this
      simpa [bs] using h1
    have hf : findM nm (m :: l) = some m := by simp [findM, hn]
    rw [hf]
    refine ⟨?_, fun m' h' zd => ?_⟩
    · rw [has_put_same hD (keyLaw.key hk)]; rfl
    · cases h'
      exact atKey_put_same hD (keyLaw.key hk) _ _
  · have hn : ¬ m.name = nm := fun hn => e (by subst hn; rw [hk] at hk'; exact (Option.some.inj hk').symm)
    have hf : findM nm (m :: l) = findM nm l := by simp [findM, hn]
    rw [hf, has_put_other e]
    refine ⟨(h nm kl' hk').1, fun m' h' zd => ?_⟩
    rw [atKey_put_other e]
    exact (h nm kl' hk').2 m' h' zd
theorem macZero (w : World) : (zeroValue 131).run Tryz.prog w = .ok (macv ⟨[], 0, 0, 0⟩) w := by kernel_rfl
/-- what a look-up finds -/
theorem lookM {w : World} {bm n : Nat} {l : List Mac} {D : DataW Unit} (hown : w.ownsMap Tryz.prog 191 macElem bm n D) (hk : KnownM l D) {nm : List UInt8} {kl : Lit} (hkey : keyOf Tryz.prog 191 (keyv nm 0) = some kl) :
    (Instr.lookup 188 (.map (some bm)) (keyv nm 0) true).run Tryz.prog w = .ok (.tuple #[macv ((findM nm l).getD ⟨[], 0, 0, 0⟩), .bool (findM nm l).isSome]) w := by
  obtain ⟨v, ps, hrun, hv⟩ := hown.look_ok keyLaw Tryz.underlying188 (macZero w) (macElem_mk ⟨[], 0, 0, 0⟩) hkey
  obtain ⟨h1, h2⟩ := hk nm kl hkey
  rw [hrun, h1]
  cases hf : findM nm l with
  | none =>
    rw [hf] at h1
    rw [atKey_of_not_has h1] at hv
    rw [macElem_inv hv]
    rfl
  | some m =>
    rw [h2 m hf] at hv
    rw [macElem_inv hv]
    rfl
end Go.Proofs.YtfbphoppgmganaaGreat

/-
  What is on a machine together, by the program: UsedOn; walks over the dump.
-/
namespace Go.Proofs.YtfbphoppgmganaaGreat
open Go.RowKit
set_option linter.unusedVariables false

set_option maxRecDepth 100000 in
set_option maxHeartbeats 1000000 in
theorem onFn_any (B : Nat) (nm : List UInt8) (q : Con) (w : World) (hc : w.cell? ⟨B, 0, none⟩ = some (.string (bs nm))) :
    Calls Tryz.prog 311 #[conv q, .pointer (some ⟨B, 0, none⟩)] w fun e w' => e = .returned (.bool (decide (q.node = nm))) ∧ Below w.heap.size w w' := by
  have hlt := cell_lt hc
  have hc2 : (w.alloc (conobj q)).cell? ⟨B, 0, none⟩ = some (.string (bs nm)) := by rw [World.cell?_alloc_lt _ _ ⟨B, 0, none⟩ hlt]; exact hc
  have hbe := bs_eq q.node nm
  clear hc hlt
  go_enter Tryz.func311, Tryz.ntmps311
  go_wp2
  go_ret
  exact ⟨rfl, below_al (Below.refl _ _) _⟩

def onNode (nm : List UInt8) (q : Con) : Bool := decide (q.node = nm)
def usedOnV (s : St) (nm : List UInt8) : Int × Int := ((sumR (usedL (onNode nm) s.cs)).1, (sumR (usedL (onNode nm) s.cs)).2.1)
def onW (w : World) (c : Array Value) (nm : List UInt8) : World := ((w.alloc (.cells c 40)).alloc (.cells #[.string (bs nm)] 9)).alloc (.cells #[.int .i64 0, .int .i64 0] 30)
theorem onW_below (w : World) (c : Array Value) (nm : List UInt8) : Below w.heap.size w (onW w c nm) := below_al (below_al (below_al (Below.refl _ w) _) _) _
theorem onW_cell (w : World) (c : Array Value) (nm : List UInt8) : (onW w c nm).cell? ⟨w.heap.size + 1, 0, none⟩ = some (.string (bs nm)) := by
  have := ((blk_new (w.alloc (.cells c 40)) #[.string (bs nm)] 9).al (.cells #[.int .i64 0, .int .i64 0] 30)).at 0
  rw [al_size] at this
  exact this
theorem onW_var (w : World) (c : Array Value) (nm : List UInt8) : Var (onW w c nm) 30 (w.heap.size + 1 + 1) 0 0 := by
  have := var_new ((w.alloc (.cells c 40)).alloc (.cells #[.string (bs nm)] 9)) 30 0 0
  rwa [al_size, al_size] at this

set_option maxRecDepth 100000 in
set_option maxHeartbeats 2000000 in
theorem implUsedOn_any (x : Sls) (s : St) (nm : List UInt8) (w : World) (h : ConRow w x.ca x.cl s.cs) (hl : x.cl ≤ 1048576) :
    Calls Tryz.prog 254 #[sv x s, .string (bs nm)] w fun e w' => e = .returned (rv (usedOnV s nm).1 (usedOnV s nm).2) ∧ Below w.heap.size w w' := by
  have hmf : ∀ (fn : Fn) (first cap : Array Value) (w : World), (Instr.makeFunc fn first cap).run Tryz.prog w = .ok (.func fn first cap) w := fun _ _ _ _ => rfl
  obtain ⟨⟨sx, sy⟩, hs⟩ : ∃ s', usedOnV s nm = s' := ⟨_, rfl⟩
  have h1 := congrArg Prod.fst hs
  have h2 := congrArg Prod.snd hs
  simp only [usedOnV] at h1 h2
  have CU := hide (by
    have := used_any 311 #[.pointer (some ⟨w.heap.size + 1, 0, none⟩)] (enters_of Tryz.func311 (by kernel_rfl) rfl) (onNode nm) x s (onW w (svc x s) nm) (h.below (onW_below w _ nm)) hl
      (fun wy q hy => onFn_any (w.heap.size + 1) nm q wy ((hy.cell (p := ⟨w.heap.size + 1, 0, none⟩) (cell_lt (onW_cell w _ nm))).trans (onW_cell w _ nm)))
    rw [h1, h2] at this
    exact this)
  rw [hs]
  clear hs h1 h2 h
  obtain ⟨qa, ql, qc, aa, al, ac, ma, ml, mc, ca, cl, cc⟩ := x
  obtain ⟨qs, clock, epoch, next, serial, apps, ms, cs⟩ := s
  go_enter Tryz.func254, Tryz.ntmps254
  go_wp2_with fail
  refine (unhide CU).mono ?_
  rintro e w1 ⟨rfl, hb⟩
  have V1 := (onW_var w _ nm).below hb
  have HB1 := hide (below_on (onW_below w _ nm) hb)
  have t0 := V1.c0
  have t1 := V1.c1
  have f0 := V1.f 0
  have f1 := V1.f 1
  have VG := V1.set sx sy
  have k6 := VG.c0
  have k7 := VG.c1
  clear hb V1 VG CU
  go_wp2
  refine bodyPost_ret (v := rv sx sy) (by simp [results, Tryz.results254, go_sem, k6, k7]) rfl ⟨rfl, ?_⟩
  repeat (first | exact unhide HB1 | refine below_al ?_ _ | refine below_sc ?_ _ _ _ (by omega))
end Go.Proofs.YtfbphoppgmganaaGreat

/-
  Where a machine of a name is, in plain words and by the model: l04Machine; a walk over the dump.
-/
namespace Go.Proofs.YtfbphoppgmganaaGreat
open Go.RowKit Go.Maps
set_option linter.unusedVariables false

/-- the place of the first machine of that name, from place k on; -1 where there is none -/
def macFrom (nm : List UInt8) : List Mac → Nat → Int
  | [], _ => -1
  | q :: t, k => if q.name = nm then k else macFrom nm t (k + 1)
def macAt (l : List Mac) (nm : List UInt8) : Int := macFrom nm l 0
theorem macFrom_step {nm : List UInt8} {l : List Mac} {k : Nat} (h : k < l.length) : macFrom nm (l.drop k) k = if l[k].name = nm then (k : Int) else macFrom nm (l.drop (k + 1)) (k + 1) := by
  rw [List.drop_eq_getElem_cons h, macFrom]
theorem macFrom_end {nm : List UInt8} {l : List Mac} {k : Nat} (h : l.length ≤ k) : macFrom nm (l.drop k) k = -1 := by
  rw [List.drop_of_length_le h]; rfl
theorem macFrom_find (nm : List UInt8) : ∀ (l : List Mac) (k : Nat), (findM nm l = none ∧ macFrom nm l k = -1) ∨ (∃ (j : Nat) (h : j < l.length), findM nm l = some l[j] ∧ macFrom nm l k = ((k + j : Nat) : Int))
  | [], k => .inl ⟨rfl, rfl⟩
  | q :: t, k => by
    by_cases h : q.name = nm
    · right
      exact ⟨0, by simp, by simp [findM, h], by rw [macFrom, if_pos h]; simp⟩
    · have hf : findM nm (q :: t) = findM nm t := by simp [findM, h]
      rw [hf, macFrom, if_neg h]
      rcases macFrom_find nm t (k + 1) with ⟨a, b⟩ | ⟨j, hj, a, b⟩
      · exact .inl ⟨a, b⟩
      · exact .inr ⟨j + 1, by simpa using hj, by simpa using a, by rw [b]; congr 1; omega⟩
theorem macAt_find (nm : List UInt8) (l : List Mac) : (findM nm l = none ∧ macAt l nm = -1) ∨ (∃ (j : Nat) (h : j < l.length), findM nm l = some l[j] ∧ macAt l nm = (j : Int)) := by
  rcases macFrom_find nm l 0 with h | ⟨j, h, a, b⟩
  · exact .inl h
  · exact .inr ⟨j, h, a, by rw [macAt, b]; congr 1; omega⟩

set_option maxRecDepth 100000 in
set_option maxHeartbeats 1000000 in
theorem l04Machine_any (x : Sls) (s : St) (nm : List UInt8) (w : World) (h : MacRow w x.ma x.ml s.ms) (hl : x.ml ≤ 1048576) :
    Calls Tryz.prog 62 #[sv x s, .string (bs nm)] w fun e w' => e = .returned (.int .i64 (macAt s.ms nm)) ∧ Below w.heap.size w w' := by
  have HR := hide h
  have HL := hide h.1
  have HB0 := hide (below_al (Below.refl _ w) (.cells (svc x s) 40))
  have P0 := hide (blk_new w (svc x s) 40)
  clear h
  obtain ⟨qa, ql, qc, aa, al, ac, ma, ml, mc, ca, cl, cc⟩ := x
  obtain ⟨qs, clock, epoch, next, serial, apps, ms, cs⟩ := s
  simp only at hl HR HL ⊢
  go_enter Tryz.func62, Tryz.ntmps62
  go_wp2
  go_loopw [5] (fun i wr => ∃ (k : Nat), k ≤ ml ∧ i = .int .i64 k ∧ Hid (macAt ms nm = macFrom nm (ms.drop k) k) ∧ Hid (Blk wr w.heap.size (svc ⟨qa, ql, qc, aa, al, ac, ma, ml, mc, ca, cl, cc⟩ ⟨qs, clock, epoch, next, serial, apps, ms, cs⟩) 40) ∧ Hid (Below w.heap.size w wr)) (fun i _ => ml - (intOf i).toNat)
  case atStart => exact ⟨0, Nat.zero_le _, rfl, hide (by simp [macAt]), P0, HB0⟩
  case round =>
    obtain ⟨k, hk, rfl, HQ, HP, HB⟩ := hrel
    have p6 := (unhide HP).at 6
    simp at p6
    by_cases hlt : k < ml
    · obtain ⟨b, off, rfl, hq⟩ := ((unhide HR).below (unhide HB)).at hlt
      have hkl : k < ms.length := by have := unhide HL; omega
      have hst := hide (macFrom_step (nm := nm) hkl)
      have c0 := (hq hkl).1
      clear hq
      obtain ⟨s, hs⟩ : ∃ s, ms[k].name = s := ⟨_, rfl⟩
      rw [hs] at c0 hst
      have hbe := bs_eq s nm
      clear hs hkl
      by_cases he : s = nm
      · have HE := hide he
        rw [decide_eq_true he] at hbe
        clear he
        go_wp2
        go_ret
        exact ⟨ret_int (by rw [unhide HQ, unhide hst, if_pos (unhide HE)]), unhide HB⟩
      · have HE := hide he
        rw [decide_eq_false he] at hbe
        clear he
        go_wp2
        go_roundw
        case rel => exact ⟨k + 1, by omega, by go_num, hide (by rw [unhide HQ, unhide hst, if_neg (unhide HE)]), HP, HB⟩
        case measure => simp [intOf]; omega
    · go_wp2
      go_ret
      exact ⟨ret_int (by rw [unhide HQ, macFrom_end (by have := unhide HL; omega)]), unhide HB⟩
end Go.Proofs.YtfbphoppgmganaaGreat

/-
  What is free on a machine: in plain words; where the model looks for a machine; a walk over the dump.
-/
namespace Go.Proofs.YtfbphoppgmganaaGreat
open Go.RowKit Go.Maps
set_option linter.unusedVariables false

def lessV (a b c d : Int) : Int × Int := if bothOk (-1) a b c d then (a + -1 * c, b + -1 * d) else (0, 0)
theorem less_both (a b c d : Int) : bothV (-1) a b c d = rv (lessV a b c d).1 (lessV a b c d).2 := by
  cases h : bothOk (-1) a b c d
  · rw [both_no h, lessV, h]; rfl
  · rw [both_yes h, lessV, h]; rfl
def freeOnV (s : St) (nm : List UInt8) : Int × Int := match findM nm s.ms with
  | none => (0, 0)
  | some m => lessV m.mem m.cpu (usedOnV s nm).1 (usedOnV s nm).2
end Go.Proofs.YtfbphoppgmganaaGreat

/-
  The ask that is served next on a machine: in plain words.
-/
namespace Go.Proofs.YtfbphoppgmganaaGreat
open Go.RowKit
set_option linter.unusedVariables false

/-- whether an ask of a queue can be served on a machine -/
def canV (s : St) (nd qu : List UInt8) (a : Ask) : Bool := suitsV a nd && (within a.mem a.cpu (freeOnV s nd).1 (freeOnV s nd).2 && roomV s qu a.mem a.cpu)
/-- the first of them, from a place on -/
def askFrom (p : Ask → Bool) : List Ask → Nat → Option Nat
  | [], _ => none
  | a :: t, k => if p a = true then some k else askFrom p t (k + 1)
theorem askFrom_step {p : Ask → Bool} {l : List Ask} {k : Nat} (h : k < l.length) : askFrom p (l.drop k) k = if p l[k] = true then some k else askFrom p (l.drop (k + 1)) (k + 1) := by
  rw [List.drop_eq_getElem_cons h, askFrom]
theorem askFrom_end {p : Ask → Bool} {l : List Ask} {k : Nat} (h : l.length ≤ k) : askFrom p (l.drop k) k = none := by
  rw [List.drop_of_length_le h]; rfl
theorem askFrom_lt {p : Ask → Bool} : ∀ {l : List Ask} {k j : Nat}, askFrom p l k = some j → k ≤ j ∧ j < k + l.length
  | [], _, _, h => by cases h
  | a :: t, k, j, h => by
    rw [askFrom] at h
    split at h
    · cases h; simp
    · have := askFrom_lt h
      simp
      omega
/-- the application and the ask of a queue, from a place on -/
def appFrom (p : Ask → Bool) (qu : List UInt8) : List Appl → Nat → Option (Nat × Nat)
  | [], _ => none
  | a :: t, i => if a.queue = qu then (match askFrom p a.asks 0 with | some k => some (i, k) | none => appFrom p qu t (i + 1)) else appFrom p qu t (i + 1)
theorem appFrom_step {p : Ask → Bool} {qu : List UInt8} {l : List Appl} {i : Nat} (h : i < l.length) : appFrom p qu (l.drop i) i = if l[i].queue = qu then (match askFrom p l[i].asks 0 with | some k => some (i, k) | none => appFrom p qu (l.drop (i + 1)) (i + 1)) else appFrom p qu (l.drop (i + 1)) (i + 1) := by
  rw [List.drop_eq_getElem_cons h, appFrom]
theorem appFrom_end {p : Ask → Bool} {qu : List UInt8} {l : List Appl} {i : Nat} (h : l.length ≤ i) : appFrom p qu (l.drop i) i = none := by
  rw [List.drop_of_length_le h]; rfl
/-- the queues one after the other -/
def queFrom (s : St) (nd : List UInt8) : List (List UInt8) → Option (Nat × Nat)
  | [] => none
  | q :: t => match appFrom (canV s nd q) q s.apps 0 with | some r => some r | none => queFrom s nd t
def pickV (s : St) (nd : List UInt8) : Option (Nat × Nat) := queFrom s nd (orderV s)
theorem queFrom_step {s : St} {nd : List UInt8} {l : List (List UInt8)} {i : Nat} (h : i < l.length) : queFrom s nd (l.drop i) = match appFrom (canV s nd l[i]) l[i] s.apps 0 with | some r => some r | none => queFrom s nd (l.drop (i + 1)) := by
  rw [List.drop_eq_getElem_cons h, queFrom]
theorem queFrom_end {s : St} {nd : List UInt8} {l : List (List UInt8)} {i : Nat} (h : l.length ≤ i) : queFrom s nd (l.drop i) = none := by
  rw [List.drop_of_length_le h]; rfl
/-- what the program asks: no room at all, and all asks are passed over -/
theorem appFrom_none {p : Ask → Bool} (hp : ∀ a, p a = false) (qu : List UInt8) : ∀ (l : List Appl) (i : Nat), appFrom p qu l i = none
  | [], _ => rfl
  | a :: t, i => by
    have hn : ∀ (l : List Ask) k, askFrom p l k = none := fun l => by
      induction l with
      | nil => intro k; rfl
      | cons a t ih => intro k; rw [askFrom, if_neg (by rw [hp]; simp)]; exact ih _
    rw [appFrom, hn, appFrom_none hp qu t]
    split <;> rfl
end Go.Proofs.YtfbphoppgmganaaGreat

/-
  The library's Backward over a list of machines: what its function that takes a yield hands on; walks over the dump.
-/
namespace Go.Proofs.YtfbphoppgmganaaGreat
open Go.RowKit Go.Shelf
set_option linter.unusedVariables false
attribute [local go_sem] Oper.semAt_some

/-- a machine whose name is not too long -/
abbrev NMac := { m : Mac // m.name.length ≤ 1048576 }
theorem MacRow.kpa {W W' : World} {ao : Option Addr} {len : Nat} {l : List Mac} (h : MacRow W ao len l) (k : KpA W W') : MacRow W' ao len l := by
  obtain ⟨h1, h2⟩ := h
  refine ⟨h1, ?_⟩
  rcases h2 with h2 | ⟨b, off, h3, h4⟩
  · exact .inl h2
  · exact .inr ⟨b, off, h3, fun i hi => let ⟨a, b, c, d⟩ := h4 i hi; ⟨k.cell a, k.cell b, k.cell c, k.cell d⟩⟩

set_option maxRecDepth 100000 in
set_option maxHeartbeats 4000000 in
theorem backM_some (n l Bs len cap : Nat) (ao : Option Addr) (ms : List Mac) (J Jx : List (Int × NMac) → World → Prop)
    (hY : ∀ pre x W1, J pre W1 → pre.length < ms.length → YieldAt Fence.wide (n - 1) Tryz.prog l #[.int .i64 x.1, macv x.2.1] W1 fun e W' =>
      (e = .returned (.bool true) ∧ J (pre ++ [x]) W' ∧ KpA W1 W') ∨ (e = .returned (.bool false) ∧ Jx (pre ++ [x]) W'))
    (W : World) (hBs : W.cell? ⟨Bs, 0, none⟩ = some (.slice ao len cap)) (hg : MacRow W ao len ms) (hl : len ≤ 1048576) (hN : ∀ m ∈ ms, m.name.length ≤ 1048576) (h0 : J [] W) :
    CallsIn Fence.wide n Tryz.prog 270 #[.func (.yield l) #[] #[], .pointer (some ⟨Bs, 0, none⟩)] W fun e W' => (∃ v, e = .returned v) ∧
      ((∃ ys : List (Int × NMac), Hid (ys.map (fun x : Int × NMac => x.2.1) = ms.reverse) ∧ J ys W') ∨ (∃ pre, Jx pre W')) := by
  have HY := hide hY
  have HBs := hide hBs
  have HG := hide hg
  have HLEN := hide hg.1
  have H0 := hide h0
  have HNN := hide hN
  clear hY hg h0 hN
  refine callsIn_of_wp Tryz.func270 rfl trivial ?_ rfl
  simp only [Tryz.ntmps270, List.size_toArray, List.length_cons, List.length_nil, Nat.reduceAdd, Nat.reduceSub, Array.replicate_succ, Array.replicate_zero, List.push_toArray, List.append_toArray, List.nil_append, List.cons_append]
  gi_wp2
  clear hBs
  gi_loopw [3] (fun i wr => ∃ (k : Nat) (pre : List (Int × NMac)), k ≤ len ∧ i = .int .i64 ((k : Int) - 1) ∧ Hid (pre.length + k = ms.length) ∧ Hid (pre.map (fun x : Int × NMac => x.2.1) = (ms.drop k).reverse) ∧ Hid (J pre wr) ∧ Hid (wr.cell? ⟨Bs, 0, none⟩ = some (.slice ao len cap)) ∧ Hid (MacRow wr ao len ms)) (fun i _ => (intOf i + 1).toNat)
  case atStart => exact ⟨len, [], Nat.le_refl _, by go_num, hide (by have := unhide HLEN; simp; omega), hide (by rw [List.drop_of_length_le (by have := unhide HLEN; omega)]; rfl), H0, HBs, HG⟩
  case round =>
    obtain ⟨k, pre, hk, rfl, HL, HM, HJ, HB, HGr⟩ := hrel
    cases k with
    | zero =>
      gi_wp2
      go_end0
      exact ⟨⟨_, rfl⟩, .inl ⟨pre, hide (by rw [unhide HM]; rfl), unhide HJ⟩⟩
    | succ j =>
      have hj : j < len := by omega
      obtain ⟨b, off, rfl, hq⟩ := (unhide HGr).at hj
      have hjm : j < ms.length := by have := unhide HLEN; omega
      obtain ⟨c0, c1, c2, c3⟩ := hq hjm
      have hbox := unhide HB
      have hel := unhide HNN ms[j] (List.getElem_mem _)
      obtain ⟨fn, tmps, assign, body, hy, hR⟩ := unhide HY pre ((j : Int), ⟨ms[j], hel⟩) wr (unhide HJ) (by have := unhide HL; omega)
      have HRR := hide hR
      have HM2 := hide (show (pre ++ [((j : Int), (⟨ms[j], hel⟩ : NMac))]).map (fun x : Int × NMac => x.2.1) = (ms.drop j).reverse by rw [List.map_append, unhide HM, List.drop_eq_getElem_cons hjm, List.reverse_cons]; rfl)
      have hij : ((j + 1 : Nat) : Int) - 1 = (j : Int) := by omega
      obtain ⟨y, hyy⟩ : ∃ y : NMac, (⟨ms[j], hel⟩ : NMac) = y := ⟨_, rfl⟩
      have hy1 : ms[j] = y.1 := by rw [← hyy]
      rw [hyy] at hy HRR HM2
      rw [hy1] at c0 c1 c2 c3
      obtain ⟨⟨nm, me, cp, se⟩, hyn⟩ := y
      simp only at hy c0 c1 c2 c3
      rw [hij]
      have j0 : (0 : Int) ≤ j := by omega
      have j1 : (j : Int) < len := by omega
      clear hR hyy hy1 hij HM hq hjm hel
      gi_wp2
      refine ⟨(by intro e; cases e), ?_⟩
      refine (unhide HRR).mono ?_
      rintro e W3 (⟨rfl, hJ3, hk3⟩ | ⟨rfl, hJx3⟩)
      · have HB3 := hide (hk3.cell (unhide HB))
        have HG3 := hide ((unhide HGr).kpa hk3)
        have HJ3 := hide hJ3
        clear hk3 hJ3 hbox hy HRR c0 c1 c2 c3
        gi_wp2
        go_roundw
        case rel => exact ⟨j, pre ++ [((j : Int), ⟨⟨nm, me, cp, se⟩, hyn⟩)], by omega, by go_num, hide (by have := unhide HL; simp; omega), HM2, HJ3, HB3, HG3⟩
        case measure => simp [intOf]
      · gi_wp2
        refine bodyPost_ret (results_none rfl _ _ _) rfl ?_
        exact ⟨⟨_, rfl⟩, .inr ⟨_, hJx3⟩⟩

theorem backM_stops (n Bs len cap : Nat) (ao : Option Addr) (ms : List Mac) (w : World) (hBs : w.cell? ⟨Bs, 0, none⟩ = some (.slice ao len cap)) (hrow : MacRow w ao len ms) (hl : len ≤ 1048576) (hN : ∀ m ∈ ms, m.name.length ≤ 1048576) :
    SeqStopsK Fence.wide n Tryz.prog 270 #[.pointer (some ⟨Bs, 0, none⟩)] (fun x : Int × NMac => #[.int .i64 x.1, macv x.2.1]) KpA (fun ys => Hid (ys.map (fun x : Int × NMac => x.2.1) = ms.reverse)) (fun _ => True) ms.length w := by
  intro l J Jx W hW hJ hJx hY h0
  refine (backM_some n l Bs len cap ao ms J Jx hY W ((hW.cell (cell_lt hBs)).trans hBs) (hrow.below hW) hl hN h0).mono ?_
  rintro e W' ⟨he, ⟨ys, h1, h2⟩ | ⟨pre, h2⟩⟩
  · exact ⟨he, .inl ⟨ys, h1, h2⟩⟩
  · exact ⟨he, .inr ⟨pre, trivial, h2⟩⟩

set_option maxHeartbeats 1000000 in
theorem backM_any (v : Value) (w : World) (hv : v.oneCell' = true) :
    Calls Tryz.prog 213 #[v] w fun e w' => e = .returned (.func (.func 270) #[] #[.pointer (some ⟨w.heap.size, 0, none⟩)]) ∧ w.alloc (.cells #[v] 37) = w' := by
  have hmf : ∀ (fn : Fn) (first cap : Array Value) (w : World), (Instr.makeFunc fn first cap).run Tryz.prog w = .ok (.func fn first cap) w := fun _ _ _ _ => rfl
  go_enter Tryz.func213, Tryz.ntmps213
  go_wp2
  go_ret
  exact ⟨rfl, rfl⟩

set_option maxHeartbeats 1000000 in
theorem macKey_any (m : Mac) (w : World) :
    Calls Tryz.prog 214 #[macv m] w fun e w' => e = .returned (.agg #[.string (bs m.name), .int .i64 0]) ∧ Below w.heap.size w w' := by
  obtain ⟨nm, me, cp, se⟩ := m
  go_enter Tryz.func214, Tryz.ntmps214
  go_wp2
  refine bodyPost_ret (v := .agg #[.string (bs nm), .int .i64 0]) (by simp [results, Tryz.results214, go_sem]) rfl ⟨rfl, ?_⟩
  repeat (first | exact Below.refl _ _ | refine below_al ?_ _ | refine Below.drew ?_ | refine below_sc ?_ _ _ _ (by omega))
end Go.Proofs.YtfbphoppgmganaaGreat
