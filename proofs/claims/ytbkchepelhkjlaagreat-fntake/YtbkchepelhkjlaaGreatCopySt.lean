/-
 A state copied: what the program's copyOfState answers: the same state, in memory of its own; a walk over the dump.
-/
import Derived.Test.YtbkchepelhkjlaaGreatPackE
import Derived.Test.YtbkchepelhkjlaaGreatPackG
import Derived.Test.YtbkchepelhkjlaaGreatRmL
import Derived.Deep.CutBlock
import Derived.Deep.CutRange
namespace Go.Proofs.YtbkchepelhkjlaaGreat
open Go.RowKit
set_option linter.unusedVariables false
theorem PHas.blk {B n k : Nat} {w : World} {ao : Option Addr} {l : List AV} (h : PHas B w ao n l) (hk : k < n) : ∃ g M, ao = some ⟨g, 0, none⟩ ∧ B ≤ g ∧ g < w.heap.size ∧ AVBlk w g M l := by
 obtain ⟨⟨h1, h2⟩, h3⟩ := h
 rcases h3 with e | ⟨g, M, rfl, hB, hE, hc, hn⟩
 ·omega
 ·rcases h2 with e | ⟨b, off, e, hh⟩
  ·omega
  ·cases e
   exact ⟨g, M, rfl, hB, hE, hc, by omega, fun i hi => by have := hh i hi; rwa [Nat.zero_add] at this⟩
/-- the asks of one head are laid anew -/
theorem AVBlk.asks {w : World} {g M i : Nat} {l : List AV} (h : AVBlk w g M l) (hi : i < l.length) (ao : Option Addr) (len cap : Nat) : AVBlk (w.setCell ⟨g, i * 3 + 2, none⟩ (.slice ao len cap)) g M (l.set i ⟨l[i].id, l[i].queue, ao, len, cap⟩) := by
 refine ⟨h.1.set _ _ _, by simpa using h.2.1, fun j hj => ?_⟩
 have hj' : j < l.length := by simpa using hj
 obtain ⟨a, b, c⟩ := h.2.2 j hj'
 by_cases e : i = j
 ·subst e
  simp only [List.getElem_set_self]
  exact ⟨cellKeep a (by omega), cellKeep b (by omega), World.cell?_setCell_same _ ⟨g, i * 3 + 2, none⟩ _ c⟩
 ·rw [List.getElem_set_ne e]
  exact ⟨cellKeep a (by omega), cellKeep b (by omega), cellKeep c (by omega)⟩
theorem AVBlk.has {B w g M n l} (h : AVBlk w g M l) (hB : B ≤ g) (hn : n = l.length) : PHas B w (some ⟨g, 0, none⟩) n l := by
 subst hn
 exact ⟨h.row, .inr ⟨g, M, rfl, hB, h.1.lt, h.1, h.2.1⟩⟩

/-- what a copy in the making has: its two boxes, its queues, its applications -/
structure CpSt (w : World) (arr : Array Value) (qo : Option Addr) (qs : List Q) (po : Option Addr) (n2 : Nat) (ns : List AV) (apps : List Appl) (wr : World) : Prop where
 r0 : Blk wr w.heap.size arr 29
 r1 : Blk wr (w.heap.size + 1) #[.slice none 0 0, .int .i64 0, .int .i64 0, .int .i64 0, .int .i64 0, .slice none 0 0, .slice none 0 0, .slice none 0 0] 29
 q : QHas (w.heap.size + 2) wr qo qs.length qs
 p : PHas (w.heap.size + 2) wr po n2 ns
 k : KHas (w.heap.size + 2) wr ns apps
 b : Below w.heap.size w wr
 z : w.heap.size + 2 ≤ wr.heap.size
theorem CpSt.below {w : World} {arr : Array Value} {qo : Option Addr} {qs : List Q} {po : Option Addr} {n2 : Nat} {ns : List AV} {apps : List Appl} {wr wy : World} (h : CpSt w arr qo qs po n2 ns apps wr) (hb : Below wr.heap.size wr wy) : CpSt w arr qo qs po n2 ns apps wy :=
 ⟨h.r0.below hb, h.r1.below hb, h.q.below hb, h.p.below hb, h.k.below hb, below_on h.b hb, Nat.le_trans h.z hb.size⟩
theorem CpSt.sc {w : World} {arr : Array Value} {qo : Option Addr} {qs : List Q} {po : Option Addr} {n2 : Nat} {ns : List AV} {apps : List Appl} {wr : World} (h : CpSt w arr qo qs po n2 ns apps wr) (j : Nat) (v : Value) : CpSt w (arr.setIfInBounds j v) qo qs po n2 ns apps (wr.setCell ⟨w.heap.size, j, none⟩ v) :=
 ⟨h.r0.set j v, h.r1.other _ _ _ (by omega), h.q.sc (by omega), h.p.sc (by omega), h.k.sc (.inl (by omega)), below_sc h.b _ _ _ (Nat.le_refl _), by rw [set_size]; exact h.z⟩
theorem MHas.blk {B n k : Nat} {w : World} {ao : Option Addr} {l : List Mac} (h : MHas B w ao n l) (hk : k < n) : ∃ g, ao = some ⟨g, 0, none⟩ ∧ B ≤ g ∧ g < w.heap.size ∧ (∀ j, w.frozen? ⟨g, j, none⟩ = false) ∧ ∀ i (hi : i < l.length), MacAt w g (i * 4) l[i] := by
 obtain ⟨⟨h1, h2⟩, h3⟩ := h
 rcases h3 with e | ⟨g, M, rfl, hB, hE, hc, hn⟩
 ·omega
 ·rcases h2 with e | ⟨b, off, e, hh⟩
  ·omega
  ·cases e
   exact ⟨g, rfl, hB, hE, fun j => hc.frozen j, fun i hi => by have := hh i hi; rwa [Nat.zero_add] at this⟩
/-- the answer is that state, in memory of its own -/
def CopyAns (w : World) (s : St) (e : Ending) (w' : World) : Prop := ∃ y hs, e = .returned (sv y s) ∧ SAns w.heap.size w'.heap.size w' y s hs ∧ Below w.heap.size w w'

set_option maxRecDepth 100000 in
set_option maxHeartbeats 8000000 in
theorem copyOfState_any (x : Sls) (s : St) (w : World) (h : SRow w x s) (hf : FitSt s) :
  Calls Tryz.prog 92 #[sv x s] w (CopyAns w s) := by
 obtain ⟨hs0, hav, hhd⟩ := h.2.1.heads
 have hqs := hf.1.2
 have hcq := h.1.1
 have hca := h.2.1.1
 have hcm := h.2.2.1.1
 have hcc := h.2.2.2.1
 have hlq : x.ql ≤ 1048576 := by have := hf.1.1; omega
 have hla : x.al ≤ 1048576 := by have := hf.2.1.1; omega
 have hlm : x.ml ≤ 1048576 := by have := hf.2.2.1.1; omega
 have hlc : x.cl ≤ 1048576 := by have := hf.2.2.2.1; omega
 obtain ⟨qa, ql, qc, aa, al, ac, ma, ml, mc, ca, cl, cc⟩ := x
 obtain ⟨qs, clock, epoch, next, serial, apps, ms, cs⟩ := s
 simp only at *
 have hb0 := below_al (below_al (Below.refl _ w) (.cells #[.slice qa ql qc, .int .i64 clock, .int .i64 epoch, .int .i64 next, .int .i64 serial, .slice aa al ac, .slice ma ml mc, .slice ca cl cc] 29)) (.cells #[.slice none 0 0, .int .i64 0, .int .i64 0, .int .i64 0, .int .i64 0, .slice none 0 0, .slice none 0 0, .slice none 0 0] 29)
 have HB0 := hide hb0
 have P0 := hide ((blk_new w #[.slice qa ql qc, .int .i64 clock, .int .i64 epoch, .int .i64 next, .int .i64 serial, .slice aa al ac, .slice ma ml mc, .slice ca cl cc] 29).al (.cells #[.slice none 0 0, .int .i64 0, .int .i64 0, .int .i64 0, .int .i64 0, .slice none 0 0, .slice none 0 0, .slice none 0 0] 29))
 have P1 := hide (show Blk _ (w.heap.size + 1) #[.slice none 0 0, .int .i64 0, .int .i64 0, .int .i64 0, .int .i64 0, .slice none 0 0, .slice none 0 0, .slice none 0 0] 29 by have := blk_new (w.alloc (.cells #[.slice qa ql qc, .int .i64 clock, .int .i64 epoch, .int .i64 next, .int .i64 serial, .slice aa al ac, .slice ma ml mc, .slice ca cl cc] 29)) #[.slice none 0 0, .int .i64 0, .int .i64 0, .int .i64 0, .int .i64 0, .slice none 0 0, .slice none 0 0, .slice none 0 0] 29; rwa [al_size] at this)
 have SQ := hide h.1
 have SV := hide hav
 have SH := hide hhd
 have SM := hide h.2.2.1
 have SC := hide h.2.2.2
 have HF := hide hf
 have CQ := hide (copyOfQueues_any qa ql qc qs _ (h.1.below hb0) hlq hqs)
 have HNQ := hide hcq
 have HNA := hide hca
 have HNM := hide hcm
 have HNC := hide hcc
 clear h hav hhd hb0 hf hqs hcq hca hcm hcc
 go_enter Tryz.func92, Tryz.ntmps92
 go_wp2_with fail
 refine (unhide CQ).mono ?_
 rintro e w2 ⟨v, rfl, ho, hb⟩
 obtain ⟨qo, qd, rfl, hqd, hqh⟩ := QOwn.has ho
 rw [al_size, al_size] at hqh
 have hrq := own1_of ho
 rw [al_size, al_size] at hrq
 have HM2 := hide (RmL.cons hrq (RmL.nil _ _))
 have HB2 := hide (below_on (unhide HB0) hb)
 have Q0 := hide ((unhide P0).below hb)
 have Q1 := hide ((unhide P1).below hb)
 have OQ := hide hqh
 have hz2 : w.heap.size + 2 ≤ w2.heap.size := by have := hb.size; rw [al_size, al_size] at this; omega
 have d0 := (unhide Q0).at 0
 have f0 := (unhide Q0).f 0
 simp at d0
 have HQD := hide hqd
 clear ho hb hqh hrq HB0 P0 P1 CQ hqd
 go_upto_region 2 with fail
 have HB3 := hide (below_sc (unhide HB2) w.heap.size 0 (.slice qo qs.length qd) (Nat.le_refl _))
 have R0 := hide (show Blk (w2.setCell ⟨w.heap.size, 0, none⟩ (.slice qo qs.length qd)) w.heap.size #[.slice qo qs.length qd, .int .i64 clock, .int .i64 epoch, .int .i64 next, .int .i64 serial, .slice aa al ac, .slice ma ml mc, .slice ca cl cc] 29 from (unhide Q0).set 0 (.slice qo qs.length qd))
 have R1 := hide ((unhide Q1).other w.heap.size 0 (.slice qo qs.length qd) (by omega))
 have OQ3 := hide ((unhide OQ).sc (k := w.heap.size) (j := 0) (v := .slice qo qs.length qd) (by omega))
 have hz3 : w.heap.size + 2 ≤ (w2.setCell ⟨w.heap.size, 0, none⟩ (.slice qo qs.length qd)).heap.size := by rw [set_size]; exact hz2
 have HM3 := hide ((unhide HM2).sc w.heap.size 0 (.slice qo qs.length qd))
 generalize w2.setCell ⟨w.heap.size, 0, none⟩ (.slice qo qs.length qd) = w3 at HB3 R0 R1 OQ3 HM3 hz3 ⊢
 clear d0 f0 HB2 Q0 Q1 OQ HM2 hz2
 have CA := hide (cloneApp_any aa al ac hs0 w3 ((unhide SV).below (unhide HB3)) hla)
 have a5 := (unhide R0).at 5
 simp at a5
 go_wp2_with fail
 refine (unhide CA).mono ?_
 rintro e w4 ⟨v, rfl, ho, hb⟩
 obtain ⟨po, pd, rfl, hpd, hph⟩ := pown_has (pown_base ho hz3)
 have HM4 := hide (RmL.cons (own1_of (pown_base ho hz3)) ((unhide HM3).below hb))
 have HB4 := hide (below_on (unhide HB3) hb)
 have Q0 := hide ((unhide R0).below hb)
 have Q1 := hide ((unhide R1).below hb)
 have OQ4 := hide ((unhide OQ3).below hb)
 have hz4 : w.heap.size + 2 ≤ w4.heap.size := by have := hb.size; omega
 obtain ⟨n2, hn2⟩ : ∃ n, hs0.length = n := ⟨_, rfl⟩
 rw [hn2] at hph ⊢
 have OP4 := hide hph
 have HN2 := hide hn2
 have hl2 : n2 ≤ 1048576 := by have := (unhide SV).1; omega
 have d5 := (unhide Q0).at 5
 have f5 := (unhide Q0).f 5
 simp at d5
 have HPD := hide (show n2 ≤ pd by omega)
 clear ho hb hph HB3 R0 R1 OQ3 HM3 hz3 CA a5 hpd hn2
 go_upto_region 3 with fail
 have HB5 := hide (below_sc (unhide HB4) w.heap.size 5 (.slice po n2 pd) (Nat.le_refl _))
 have R0 := hide (show Blk (w4.setCell ⟨w.heap.size, 5, none⟩ (.slice po n2 pd)) w.heap.size #[.slice qo qs.length qd, .int .i64 clock, .int .i64 epoch, .int .i64 next, .int .i64 serial, .slice po n2 pd, .slice ma ml mc, .slice ca cl cc] 29 from (unhide Q0).set 5 (.slice po n2 pd))
 have R1 := hide ((unhide Q1).other w.heap.size 5 (.slice po n2 pd) (by omega))
 have OQ5 := hide ((unhide OQ4).sc (k := w.heap.size) (j := 5) (v := .slice po n2 pd) (by omega))
 have OP5 := hide ((unhide OP4).sc (k := w.heap.size) (j := 5) (v := .slice po n2 pd) (by omega))
 have hz5 : w.heap.size + 2 ≤ (w4.setCell ⟨w.heap.size, 5, none⟩ (.slice po n2 pd)).heap.size := by rw [set_size]; exact hz4
 have HM5 := hide ((unhide HM4).sc w.heap.size 5 (.slice po n2 pd))
 generalize w4.setCell ⟨w.heap.size, 5, none⟩ (.slice po n2 pd) = w5 at HB5 R0 R1 OQ5 OP5 HM5 hz5 ⊢
 have a5 := (unhide R0).at 5
 simp at a5
 clear d5 f5 HB4 Q0 Q1 OQ4 OP4 HM4 hz4
 go_wp2
 go_loopw [18] (fun i wr => ∃ (k : Nat), k ≤ n2 ∧ i = .int .i64 k ∧ Hid (∃ ns : List AV, ns.length = k ∧ PHas (w.heap.size + 2) wr po n2 (ns ++ hs0.drop k) ∧ KHas (w.heap.size + 2) wr ns (apps.take k) ∧ RmL (w.heap.size + 2) wr ((41, 3, po, pd) :: (59, 4, qo, qd) :: ns.map (fun v => (106, 5, v.ao, v.cap)))) ∧ Hid (Blk wr w.heap.size #[.slice qo qs.length qd, .int .i64 clock, .int .i64 epoch, .int .i64 next, .int .i64 serial, .slice po n2 pd, .slice ma ml mc, .slice ca cl cc] 29) ∧ Hid (Blk wr (w.heap.size + 1) #[.slice none 0 0, .int .i64 0, .int .i64 0, .int .i64 0, .int .i64 0, .slice none 0 0, .slice none 0 0, .slice none 0 0] 29) ∧ Hid (QHas (w.heap.size + 2) wr qo qs.length qs) ∧ Hid (Below w.heap.size w wr) ∧ w.heap.size + 2 ≤ wr.heap.size) (fun i _ => n2 - (intOf i).toNat)
 case atStart => exact ⟨0, Nat.zero_le _, rfl, hide ⟨[], rfl, by simpa using unhide OP5, by simpa using KHas.nil _ _, unhide HM5⟩, R0, R1, OQ5, HB5, hz5⟩
 case round =>
  obtain ⟨k, hk, rfl, HP, HR0, HR1, HQ, HB, hz⟩ := hrel
  clear R0 R1 OQ5 OP5 HB5 HM5 hz5 a5
  by_cases hlt : k < n2
  ·obtain ⟨ns, hns, hph, hkh, hrm⟩ := unhide HP
   obtain ⟨g, M, rfl, hgB, hgE, hbk⟩ := hph.blk hlt
   have hk0 : k < hs0.length := by have := unhide HN2; omega
   have hk1 : k < apps.length := by have := (unhide SH).1; omega
   have hkl : k < (ns ++ hs0.drop k).length := by rw [List.length_append, List.length_drop]; omega
   have hel : (ns ++ hs0.drop k)[k] = hs0[k] := by
    rw [List.getElem_append_right (by omega)]
    simp [hns]
   have hcel := hbk.2.2 k hkl
   rw [hel] at hcel
   obtain ⟨c0, c1, c2⟩ := hcel
   obtain ⟨e0, e1, e2, e3⟩ := (unhide SH).2 k hk0 hk1
   have hfa := (unhide HF).2.1.2 apps[k] (List.getElem_mem hk1)
   obtain ⟨⟨ai, aq, ak⟩, hap⟩ : ∃ a, apps[k] = a := ⟨_, rfl⟩
   obtain ⟨⟨vi, vq, va, vl, vc⟩, hv⟩ : ∃ v, hs0[k] = v := ⟨_, rfl⟩
   have hset : ∀ (no : Option Addr) (nl nd : Nat), (ns ++ hs0.drop k).set k ⟨vi, vq, no, nl, nd⟩ = (ns ++ [⟨vi, vq, no, nl, nd⟩]) ++ hs0.drop (k + 1) := fun no nl nd => by
    rw [List.set_append_right _ _ (by omega), List.drop_eq_getElem_cons hk0, hns, Nat.sub_self, List.set_cons_zero]
    simp
   have htk : apps.take (k + 1) = apps.take k ++ [⟨ai, aq, ak⟩] := by rw [List.take_succ_eq_append_getElem hk1, hap]
   rw [hap] at e0 e1 e2 hfa
   rw [hv] at c0 c1 c2 e0 e1 e2 e3 hel
   simp only at c0 c1 c2 e0 e1 e2 e3 hfa
   subst e0 e1
   have hrow := e2.below (unhide HB)
   have HW := hide (below_al (Below.refl _ wr) (.cells #[.int .i64 vi, .string (bs vq), .slice va vl vc] 41))
   replace hfa : vq.length ≤ 1048576 ∧ ak.length ≤ 1048576 ∧ ∀ a ∈ ak, a.node.length ≤ 1048576 := ⟨hfa.1, hfa.2.1, hfa.2.2⟩
   have hvl : vl ≤ 1048576 := by have := e2.1; omega
   have CC := hide (fun wx (hb : Below (wr.alloc (.cells #[.int .i64 vi, .string (bs vq), .slice va vl vc] 41)).heap.size (wr.alloc (.cells #[.int .i64 vi, .string (bs vq), .slice va vl vc] 41)) wx) => copyOfApp_any vi vq va vl vc ak wx ((hrow.below (unhide HW)).below hb) hvl hfa.1 hfa.2.2)
   have HST := hide hset
   have HTK := hide htk
   have HKH := hide (hkh.below (unhide HW))
   have HRM := hide (hrm.below (unhide HW))
   have HBK := hide (hbk.below (unhide HW))
   have HEL := hide hel
   have HNS := hide hns
   have X0 := hide ((unhide HR0).below (unhide HW))
   have X1 := hide ((unhide HR1).below (unhide HW))
   have XQ := hide ((unhide HQ).below (unhide HW))
   have XB := hide (below_on (unhide HB) (unhide HW))
   have XA := hide (blk_new wr #[.int .i64 vi, .string (bs vq), .slice va vl vc] 41)
   have hzw : w.heap.size + 2 ≤ (wr.alloc (.cells #[.int .i64 vi, .string (bs vq), .slice va vl vc] 41)).heap.size := by rw [al_size]; omega
   have k0 : (0 : Int) ≤ k := by omega
   have k1 : (k : Int) < n2 := by omega
   clear hph hkh hrm hbk hap hv hset htk hrow e2 e3 hfa hel hk0 hk1 hns
   go_upto_region 6 with fail
   obtain ⟨W, hW⟩ : ∃ W, wr.alloc (.cells #[.int .i64 vi, .string (bs vq), .slice va vl vc] 41) = W := ⟨_, rfl⟩
   rw [hW] at CC HKH HRM HBK X0 X1 XQ XB XA hzw ⊢
   have xa0 := (unhide XA).at 0
   have xa1 := (unhide XA).at 1
   have xa2 := (unhide XA).at 2
   have x5 := (unhide X0).at 5
   simp at xa0 xa1 xa2 x5
   clear hW HW HP HR0 HR1 HQ HB c0 c1 c2
   go_wp2_with fail
   go_region_with (go_at_call 57; refine (unhide CC _ ?_).mono ?_; (exact (Below.refl _ W).drew); rintro e w6 ⟨v, rfl, ho, hb⟩; have HB6 := hide (below_on (Below.refl _ W).drew hb); obtain ⟨no, nd, rfl, hnd, hnr, hno⟩ := aown_has ho; have HNR := hide hnr; have HNO := hide (show Own1 W.heap.size w6.heap.size w6 106 5 no ak.length from hno); have HND := hide hnd; have HOA := hide (show Own1 W.heap.size w6.heap.size w6 106 5 no nd from own1_of ho); have HBK6 := hide ((unhide HBK).below (unhide HB6)); have y5 := ((unhide X0).below (unhide HB6)).at 5; have hcel := (unhide HBK6).2.2 k hkl; rw [unhide HEL] at hcel; obtain ⟨c0, c1, c2⟩ := hcel; simp only at c0 c1 c2; have s0 := sc_same c0; have s1 := sc_same c1; have z0 := (unhide HBK6).1.frozen (k * 3); have z1 := (unhide HBK6).1.frozen (k * 3 + 1); have z2 := (unhide HBK6).1.frozen (k * 3 + 2); simp at y5; clear ho hb hnr hno hnd)
   all_goals go_wp2
   all_goals
    have hkk : ∃ t N, Cel w6 t g N ∧ t ≠ 106 := ⟨_, _, (unhide HBK6).1, by decide⟩
    have hgw : w.heap.size + 2 ≤ g := hgB
    go_roundw
    case rel =>
     refine ⟨k + 1, by omega, by go_num, hide ⟨ns ++ [⟨vi, vq, no, ak.length, nd⟩], by simp [unhide HNS], ?_, ?_, ?_⟩, hide (((unhide X0).below (unhide HB6)).other g _ _ (by omega)), hide (((unhide X1).below (unhide HB6)).other g _ _ (by omega)), hide ?_, hide (below_sc (below_on (unhide XB) (unhide HB6)) _ _ _ (by omega)), by rw [set_size]; have := (unhide HB6).size; omega⟩
     ·have := (unhide HBK6).asks hkl no ak.length nd
      rw [unhide HEL] at this
      simp only at this
      rw [unhide HST] at this
      exact this.has hgB (by have := unhide HN2; have := unhide HNS; simp; omega)
     ·rw [unhide HTK]
      exact ((unhide HKH).snoc (unhide HB6) hzw vi vq no nd ak (unhide HND) (unhide HNR) (unhide HNO)).sc (.inr hkk)
     ·exact ((RmL.cons ((unhide HOA).mono hzw (Nat.le_refl _)) ((unhide HRM).below (unhide HB6))).sub (fun p hp => by simp only [List.map_append, List.map_cons, List.map_nil, List.mem_cons, List.mem_append, List.not_mem_nil, or_false] at hp ⊢; rcases hp with h | h | h | h <;> simp [h])).sc _ _ _
     ·obtain ⟨t, N, hc, ht⟩ := hkk
      have hq := (unhide XQ).below (unhide HB6)
      refine ⟨hq.1.mks (Mks.one (fun x => x = g) _ g _ _ rfl) (fun i hi e => ?_), by rw [set_size]; exact hq.2.mks (Mks.one (fun x => x = g) _ g _ _ rfl)⟩
      obtain ⟨_, _, N', hc'⟩ := hq.2.lies i hi
      subst e
      exact absurd (hc'.type (unhide HBK6).1) (by decide)
    case measure => simp [intOf]; omega
  ·obtain rfl : k = n2 := by omega
   obtain ⟨ns, hns, hph, hkh, hrm⟩ := unhide HP
   have hdr : hs0.drop k = [] := List.drop_of_length_le (by have := unhide HN2; omega)
   have htk : apps.take k = apps := List.take_of_length_le (by have := (unhide SH).1; have := unhide HN2; omega)
   rw [hdr, List.append_nil] at hph
   rw [htk] at hkh
   have M0 := hide hrm
   have K0 := hide (show CpSt w _ qo qs po k ns apps wr from ⟨unhide HR0, unhide HR1, unhide HQ, hph, hkh, unhide HB, hz⟩)
   have CM := hide (cloneMachine_any ma ml mc ms wr ((unhide SM).below (unhide HB)) hlm)
   have a6 := (unhide HR0).at 6
   simp at a6
   have k1 : ¬ (k : Int) < k := by omega
   clear hph hkh hrm hdr htk HP HR0 HR1 HQ HB hlt hns
   go_wp2_with fail
   refine (unhide CM).mono ?_
   rintro e w7 ⟨v, rfl, ho, hb⟩
   obtain ⟨mo, md, rfl, hmd, hmh⟩ := mown_has (mown_base ho hz)
   have M1 := hide (RmL.cons (own1_of (mown_base ho hz)) ((unhide M0).below hb))
   have K1 := hide ((unhide K0).below hb)
   obtain ⟨n3, hn3⟩ : ∃ n, ms.length = n := ⟨_, rfl⟩
   rw [hn3] at hmh ⊢
   have OM := hide hmh
   have HN3 := hide hn3
   have hl3 : n3 ≤ 1048576 := by have := (unhide SM).1; omega
   have d6 := (unhide K1).r0.at 6
   have f6 := (unhide K1).r0.f 6
   simp at d6
   have HMD := hide (show n3 ≤ md by omega)
   clear ho hb hmh CM a6 hmd hn3 K0 M0 hz
   go_upto_region 9 with fail
   have K2 := hide (show CpSt w #[.slice qo qs.length qd, .int .i64 clock, .int .i64 epoch, .int .i64 next, .int .i64 serial, .slice po k pd, .slice mo n3 md, .slice ca cl cc] qo qs po k ns apps (w7.setCell ⟨w.heap.size, 6, none⟩ (.slice mo n3 md)) from (unhide K1).sc 6 (.slice mo n3 md))
   have OM2 := hide ((unhide OM).sc (k := w.heap.size) (j := 6) (v := .slice mo n3 md) (by omega))
   have M2 := hide ((unhide M1).sc w.heap.size 6 (.slice mo n3 md))
   generalize w7.setCell ⟨w.heap.size, 6, none⟩ (.slice mo n3 md) = w8 at K2 OM2 M2 ⊢
   have a6 := (unhide K2).r0.at 6
   simp at a6
   clear d6 f6 K1 OM M1
   go_wp2
   go_loopw [37] (fun i wr => ∃ (j : Nat), j ≤ n3 ∧ i = .int .i64 j ∧ Hid (CpSt w #[.slice qo qs.length qd, .int .i64 clock, .int .i64 epoch, .int .i64 next, .int .i64 serial, .slice po k pd, .slice mo n3 md, .slice ca cl cc] qo qs po k ns apps wr) ∧ Hid (MHas (w.heap.size + 2) wr mo n3 ms) ∧ Hid (RmL (w.heap.size + 2) wr ((56, 4, mo, md) :: (41, 3, po, pd) :: (59, 4, qo, qd) :: ns.map (fun v => (106, 5, v.ao, v.cap))))) (fun i _ => n3 - (intOf i).toNat)
   case atStart => exact ⟨0, Nat.zero_le _, rfl, K2, OM2, M2⟩
   case round =>
    obtain ⟨j, hj, rfl, HK, HM, HRL⟩ := hrel
    clear K2 OM2 M2 a6
    by_cases hlt : j < n3
    ·obtain ⟨g, rfl, hgB, hgE, hfz, hat⟩ := (unhide HM).blk hlt
     have hjl : j < ms.length := by have := unhide HN3; omega
     obtain ⟨c0, c1, c2, c3⟩ := hat j hjl
     have hnm := (unhide HF).2.2.1.2 ms[j] (List.getElem_mem hjl)
     obtain ⟨⟨na, me, cp, se⟩, hm⟩ : ∃ m, ms[j] = m := ⟨_, rfl⟩
     rw [hm] at c0 c1 c2 c3 hnm
     simp only at c0 c1 c2 c3 hnm
     have HW := hide (below_al (Below.refl _ wr) (.cells #[.string (bs na), .int .i64 me, .int .i64 cp, .int .i64 se] 56))
     have X0 := hide ((unhide HK).below (unhide HW))
     have XM := hide ((unhide HM).below (unhide HW))
     have XL := hide ((unhide HRL).below (unhide HW))
     have XA := hide (blk_new wr #[.string (bs na), .int .i64 me, .int .i64 cp, .int .i64 se] 56)
     have D0 := hide (cellBel c0 (unhide HW))
     have hs1 : (bs na).size ≤ 281474976710656 := by rw [bs_size]; omega
     have CL := hide (fun wx => clone_any (bs na) wx hs1)
     have j0 : (0 : Int) ≤ j := by omega
     have j1 : (j : Int) < n3 := by omega
     clear hat hm hjl hfz hnm
     go_upto_region 12 with fail
     obtain ⟨W, hW⟩ : ∃ W, wr.alloc (.cells #[.string (bs na), .int .i64 me, .int .i64 cp, .int .i64 se] 56) = W := ⟨_, rfl⟩
     rw [hW] at X0 XM XL XA D0 ⊢
     have xa0 := (unhide XA).at 0
     have x6 := (unhide X0).r0.at 6
     simp at xa0 x6
     clear hW HW HK HM HRL c0 c1 c2 c3
     go_wp2_with fail
     go_region_with (go_at_call 110; refine (unhide CL _).mono ?_; rintro e w6 ⟨rfl, hb⟩; have HB6 := hide (below_on (Below.refl _ W).drew hb); have y6 := ((unhide X0).below (unhide HB6)).r0.at 6; have c0 := cellBel (unhide D0) (unhide HB6); have s0 := sc_same c0; obtain ⟨g', e', _, _, hfz, _⟩ := ((unhide XM).below (unhide HB6)).blk hlt; cases e'; have z0 := hfz (j * 4); simp at y6; clear hb hfz)
     all_goals go_wp2
     all_goals
      go_roundw
      case rel => exact ⟨j + 1, by omega, by go_num, hide ((unhide X0).below (unhide HB6)), hide ((unhide XM).below (unhide HB6)), hide ((unhide XL).below (unhide HB6))⟩
      case measure => simp [intOf]; omega
    ·obtain rfl : j = n3 := by omega
     have CC := hide (copyOfConts_any ca cl cc cs wr ((unhide SC).below (unhide HK).b) hlc (unhide HF).2.2.2.2)
     have a7 := (unhide HK).r0.at 7
     simp at a7
     have j1 : ¬ (j : Int) < j := by omega
     clear hlt
     go_wp2_with fail
     refine (unhide CC).mono ?_
     rintro e w9 ⟨co, cd, rfl, hcd, hch0, hco, hb⟩
     have L1 := hide (RmL.cons (hco.mono (unhide HK).z (Nat.le_refl _)) ((unhide HRL).below hb))
     have hch := hch0.base (unhide HK).z
     have K1 := hide ((unhide HK).below hb)
     have OM1 := hide ((unhide HM).below hb)
     obtain ⟨n4, hn4⟩ : ∃ n, cs.length = n := ⟨_, rfl⟩
     rw [hn4] at hch ⊢
     have OC := hide hch
     have HN4 := hide hn4
     have d7 := (unhide K1).r0.at 7
     have f7 := (unhide K1).r0.f 7
     simp at d7
     have HCD := hide (show n4 ≤ cd by omega)
     clear hch0 hco hb hch CC a7 hcd hn4 HK HM HRL
     go_upto_region 15 with fail
     have K2 := hide (show CpSt w #[.slice qo qs.length qd, .int .i64 clock, .int .i64 epoch, .int .i64 next, .int .i64 serial, .slice po k pd, .slice mo j md, .slice co n4 cd] qo qs po k ns apps (w9.setCell ⟨w.heap.size, 7, none⟩ (.slice co n4 cd)) from (unhide K1).sc 7 (.slice co n4 cd))
     have OM2 := hide ((unhide OM1).sc (k := w.heap.size) (j := 7) (v := .slice co n4 cd) (by omega))
     have OC2 := hide ((unhide OC).sc (k := w.heap.size) (j := 7) (v := .slice co n4 cd) (by omega))
     have L2 := hide ((unhide L1).sc w.heap.size 7 (.slice co n4 cd))
     generalize w9.setCell ⟨w.heap.size, 7, none⟩ (.slice co n4 cd) = w10 at K2 OM2 OC2 L2 ⊢
     clear d7 f7 K1 OM1 OC L1
     have a0 := (unhide K2).r0.at 0; have a1 := (unhide K2).r0.at 1; have a2 := (unhide K2).r0.at 2; have a3 := (unhide K2).r0.at 3; have a4 := (unhide K2).r0.at 4; have a5 := (unhide K2).r0.at 5; have a6 := (unhide K2).r0.at 6; have a7 := (unhide K2).r0.at 7
     have c0 := (unhide K2).r1.at 0; have c1 := (unhide K2).r1.at 1; have c2 := (unhide K2).r1.at 2; have c3 := (unhide K2).r1.at 3; have c4 := (unhide K2).r1.at 4; have c5 := (unhide K2).r1.at 5; have c6 := (unhide K2).r1.at 6; have c7 := (unhide K2).r1.at 7
     have f0 := (unhide K2).r1.f 0; have f1 := (unhide K2).r1.f 1; have f2 := (unhide K2).r1.f 2; have f3 := (unhide K2).r1.f 3; have f4 := (unhide K2).r1.f 4; have f5 := (unhide K2).r1.f 5; have f6 := (unhide K2).r1.f 6; have f7 := (unhide K2).r1.f 7
     simp at a0 a1 a2 a3 a4 a5 a6 a7 c0 c1 c2 c3 c4 c5 c6 c7
     go_wp2
     have R9 := hide (show Blk ((((((((w10.setCell ⟨w.heap.size + 1, 0, none⟩ (.slice qo qs.length qd)).setCell ⟨w.heap.size + 1, 1, none⟩ (.int .i64 clock)).setCell ⟨w.heap.size + 1, 2, none⟩ (.int .i64 epoch)).setCell ⟨w.heap.size + 1, 3, none⟩ (.int .i64 next)).setCell ⟨w.heap.size + 1, 4, none⟩ (.int .i64 serial)).setCell ⟨w.heap.size + 1, 5, none⟩ (.slice po k pd)).setCell ⟨w.heap.size + 1, 6, none⟩ (.slice mo j md)).setCell ⟨w.heap.size + 1, 7, none⟩ (.slice co n4 cd)) (w.heap.size + 1) #[.slice qo qs.length qd, .int .i64 clock, .int .i64 epoch, .int .i64 next, .int .i64 serial, .slice po k pd, .slice mo j md, .slice co n4 cd] 29 from (((((((((unhide K2).r1.set 0 (.slice qo qs.length qd)).set 1 (.int .i64 clock)).set 2 (.int .i64 epoch)).set 3 (.int .i64 next)).set 4 (.int .i64 serial)).set 5 (.slice po k pd)).set 6 (.slice mo j md)).set 7 (.slice co n4 cd)))
     have Q9 := hide ((((((((((unhide K2).q.sc (k := w.heap.size + 1) (j := 0) (v := .slice qo qs.length qd) (by omega)).sc (k := w.heap.size + 1) (j := 1) (v := .int .i64 clock) (by omega)).sc (k := w.heap.size + 1) (j := 2) (v := .int .i64 epoch) (by omega)).sc (k := w.heap.size + 1) (j := 3) (v := .int .i64 next) (by omega)).sc (k := w.heap.size + 1) (j := 4) (v := .int .i64 serial) (by omega)).sc (k := w.heap.size + 1) (j := 5) (v := .slice po k pd) (by omega)).sc (k := w.heap.size + 1) (j := 6) (v := .slice mo j md) (by omega)).sc (k := w.heap.size + 1) (j := 7) (v := .slice co n4 cd) (by omega)))
     have P9 := hide ((((((((((unhide K2).p.sc (k := w.heap.size + 1) (j := 0) (v := .slice qo qs.length qd) (by omega)).sc (k := w.heap.size + 1) (j := 1) (v := .int .i64 clock) (by omega)).sc (k := w.heap.size + 1) (j := 2) (v := .int .i64 epoch) (by omega)).sc (k := w.heap.size + 1) (j := 3) (v := .int .i64 next) (by omega)).sc (k := w.heap.size + 1) (j := 4) (v := .int .i64 serial) (by omega)).sc (k := w.heap.size + 1) (j := 5) (v := .slice po k pd) (by omega)).sc (k := w.heap.size + 1) (j := 6) (v := .slice mo j md) (by omega)).sc (k := w.heap.size + 1) (j := 7) (v := .slice co n4 cd) (by omega)))
     have K9 := hide ((((((((((unhide K2).k.sc (k := w.heap.size + 1) (j := 0) (v := .slice qo qs.length qd) (.inl (by omega))).sc (k := w.heap.size + 1) (j := 1) (v := .int .i64 clock) (.inl (by omega))).sc (k := w.heap.size + 1) (j := 2) (v := .int .i64 epoch) (.inl (by omega))).sc (k := w.heap.size + 1) (j := 3) (v := .int .i64 next) (.inl (by omega))).sc (k := w.heap.size + 1) (j := 4) (v := .int .i64 serial) (.inl (by omega))).sc (k := w.heap.size + 1) (j := 5) (v := .slice po k pd) (.inl (by omega))).sc (k := w.heap.size + 1) (j := 6) (v := .slice mo j md) (.inl (by omega))).sc (k := w.heap.size + 1) (j := 7) (v := .slice co n4 cd) (.inl (by omega))))
     have M9 := hide ((((((((((unhide OM2).sc (k := w.heap.size + 1) (j := 0) (v := .slice qo qs.length qd) (by omega)).sc (k := w.heap.size + 1) (j := 1) (v := .int .i64 clock) (by omega)).sc (k := w.heap.size + 1) (j := 2) (v := .int .i64 epoch) (by omega)).sc (k := w.heap.size + 1) (j := 3) (v := .int .i64 next) (by omega)).sc (k := w.heap.size + 1) (j := 4) (v := .int .i64 serial) (by omega)).sc (k := w.heap.size + 1) (j := 5) (v := .slice po k pd) (by omega)).sc (k := w.heap.size + 1) (j := 6) (v := .slice mo j md) (by omega)).sc (k := w.heap.size + 1) (j := 7) (v := .slice co n4 cd) (by omega)))
     have C9 := hide ((((((((((unhide OC2).sc (k := w.heap.size + 1) (j := 0) (v := .slice qo qs.length qd) (by omega)).sc (k := w.heap.size + 1) (j := 1) (v := .int .i64 clock) (by omega)).sc (k := w.heap.size + 1) (j := 2) (v := .int .i64 epoch) (by omega)).sc (k := w.heap.size + 1) (j := 3) (v := .int .i64 next) (by omega)).sc (k := w.heap.size + 1) (j := 4) (v := .int .i64 serial) (by omega)).sc (k := w.heap.size + 1) (j := 5) (v := .slice po k pd) (by omega)).sc (k := w.heap.size + 1) (j := 6) (v := .slice mo j md) (by omega)).sc (k := w.heap.size + 1) (j := 7) (v := .slice co n4 cd) (by omega)))
     have L9 := hide (((((((((unhide L2).sc (w.heap.size + 1) 0 (.slice qo qs.length qd)).sc (w.heap.size + 1) 1 (.int .i64 clock)).sc (w.heap.size + 1) 2 (.int .i64 epoch)).sc (w.heap.size + 1) 3 (.int .i64 next)).sc (w.heap.size + 1) 4 (.int .i64 serial)).sc (w.heap.size + 1) 5 (.slice po k pd)).sc (w.heap.size + 1) 6 (.slice mo j md)).sc (w.heap.size + 1) 7 (.slice co n4 cd))
     have B9 := hide ((below_sc (below_sc (below_sc (below_sc (below_sc (below_sc (below_sc (below_sc (unhide K2).b (w.heap.size + 1) 0 (.slice qo qs.length qd) (by omega)) (w.heap.size + 1) 1 (.int .i64 clock) (by omega)) (w.heap.size + 1) 2 (.int .i64 epoch) (by omega)) (w.heap.size + 1) 3 (.int .i64 next) (by omega)) (w.heap.size + 1) 4 (.int .i64 serial) (by omega)) (w.heap.size + 1) 5 (.slice po k pd) (by omega)) (w.heap.size + 1) 6 (.slice mo j md) (by omega)) (w.heap.size + 1) 7 (.slice co n4 cd) (by omega)))
     generalize ((((((((w10.setCell ⟨w.heap.size + 1, 0, none⟩ (.slice qo qs.length qd)).setCell ⟨w.heap.size + 1, 1, none⟩ (.int .i64 clock)).setCell ⟨w.heap.size + 1, 2, none⟩ (.int .i64 epoch)).setCell ⟨w.heap.size + 1, 3, none⟩ (.int .i64 next)).setCell ⟨w.heap.size + 1, 4, none⟩ (.int .i64 serial)).setCell ⟨w.heap.size + 1, 5, none⟩ (.slice po k pd)).setCell ⟨w.heap.size + 1, 6, none⟩ (.slice mo j md)).setCell ⟨w.heap.size + 1, 7, none⟩ (.slice co n4 cd)) = W9 at R9 Q9 P9 K9 M9 C9 L9 B9 ⊢
     have z0 := (unhide R9).at 0; have z1 := (unhide R9).at 1; have z2 := (unhide R9).at 2; have z3 := (unhide R9).at 3; have z4 := (unhide R9).at 4; have z5 := (unhide R9).at 5; have z6 := (unhide R9).at 6; have z7 := (unhide R9).at 7
     simp at z0 z1 z2 z3 z4 z5 z6 z7
     refine bodyPost_ret (v := .agg #[.slice qo qs.length qd, .int .i64 clock, .int .i64 epoch, .int .i64 next, .int .i64 serial, .slice po k pd, .slice mo j md, .slice co n4 cd]) (by simp [results, Tryz.results92, go_sem, z0, z1, z2, z3, z4, z5, z6, z7]) rfl (show CopyAns w _ _ _ from ⟨⟨qo, qs.length, qd, po, k, pd, mo, j, md, co, n4, cd⟩, ns, rfl, ?_, unhide B9⟩)
     exact (sans_of (x := ⟨qo, qs.length, qd, po, k, pd, mo, j, md, co, n4, cd⟩) (s := ⟨qs, clock, epoch, next, serial, apps, ms, cs⟩) (unhide Q9) (unhide P9) (unhide K9) (unhide M9) (unhide C9) ⟨unhide HQD, unhide HPD, unhide HMD, unhide HCD⟩ (rms_of (x := ⟨qo, qs.length, qd, po, k, pd, mo, j, md, co, n4, cd⟩) ((unhide L9).sub (fun p hp => by simp only [RL4, List.mem_cons, List.mem_map] at hp ⊢; rcases hp with h | h | h | h <;> simp [h])) (unhide L9 (41, 3, po, pd) (by simp)))).mono (by omega) (Nat.le_refl _)
end Go.Proofs.YtbkchepelhkjlaaGreat
