/-
  Several texts of this claim in one: OfSL, OfSM, RoomS (pack.py put them together); each says in its own remark what is proved.
-/
import Derived.Test.YtcplnodfcchdhaaGreatPackAH
import Derived.Test.YtcplnodfcchdhaaGreatPackAG
import Derived.Test.YtcplnodfcchdhaaGreatPackAC
import Derived.Test.YtcplnodfcchdhaaGreatPackW
import Derived.Test.YtcplnodfcchdhaaGreatPackY
import Derived.Deep.RegionHeld3
import Derived.Deep.RegionWith
import Derived.Deep.QuietTactic
import Derived.Deep.CutRange
/-
  What is due to a queue, or may be had at most, by the model: l03Of; a walk over the dump.
-/
namespace Go.Proofs.YtcplnodfcchdhaaGreat
open Go.RowKit
set_option linter.unusedVariables false
set_option maxRecDepth 100000 in
set_option maxHeartbeats 4000000 in
theorem l03Of_any (ao : Option Addr) (len cap : Nat) (l : List Q) (nm : List UInt8) (a b : Int) (most : Bool) (w : World) (h : QRow w ao len l) (hl : len ≤ 1048576) (hn : ∀ q ∈ l, q.name.length ≤ 1048576) :
    Calls Tryz.prog 101 #[.slice ao len cap, .string (bs nm), rv a b, .bool most] w fun e w' => e = .returned (rv (ofR l nm a b most).1 (ofR l nm a b most).2) ∧ Below w.heap.size w w' := by
  have HR := hide h
  have HV1 := hide ((var_new w 33 a b).al (.cells #[.int .i64 0, .int .i64 0] 33))
  have HV2 := hide (var_new2 w 33 33 a b 0 0)
  have HB0 := hide (below_al (below_al (Below.refl _ w) (.cells #[.int .i64 a, .int .i64 b] 33)) (.cells #[.int .i64 0, .int .i64 0] 33))
  have CPath := hide (specPath_any ao len cap l nm _ (h.below (unhide HB0)) hl hn)
  have CP := hide (fun (x : List UInt8) wx (hb : Below w.heap.size w wx) => l03Place_any ao len cap l x wx (h.below hb) hl)
  have CK := hide (specResOk_bel a b)
  have hpl := path_len l nm
  have HPL := hide (show (path l nm).length ≤ len + 1 by have := h.1; omega)
  have HNM := hide (path_names (l := l) (nm := nm))
  obtain ⟨ps, hps⟩ : ∃ ps, path l nm = ps := ⟨_, rfl⟩
  obtain ⟨ok, hok⟩ : ∃ ok, resOk a b = ok := ⟨_, rfl⟩
  rw [hps] at CPath HPL HNM
  rw [hok] at CK
  obtain ⟨⟨x, y⟩, hxy⟩ : ∃ p, ofR l nm a b most = p := ⟨_, rfl⟩
  rw [hxy]
  have HXY := hide (show (if ps = [] ∨ ok = false then ((0 : Int), (0 : Int)) else ofP l most (a, b) ps) = (x, y) by rw [← hxy, ofR, hps, hok])
  have HLL := hide h.1
  clear h hn hps hok hxy hpl
  go_enter Tryz.func101, Tryz.ntmps101
  go_wp2_with fail
  refine (unhide CPath).mono ?_
  rintro e w1 ⟨v, rfl, ht, hb⟩
  have V1 := hide ((unhide HV1).below hb)
  have V2 := hide ((unhide HV2).below hb)
  have HB1 := hide (below_on (unhide HB0) hb)
  have HT := hide ht
  clear ht hb HV1 HV2 HB0 CPath
  by_cases hp : ps = []
  · subst hp
    obtain ⟨va, vc, rfl⟩ := texts_none (unhide HT)
    have hz : (x, y) = ((0 : Int), (0 : Int)) := by rw [← unhide HXY, if_pos (.inl rfl)]
    simp only [Prod.mk.injEq] at hz
    obtain ⟨rfl, rfl⟩ := hz
    have k0 := (unhide V2).c0
    have k1 := (unhide V2).c1
    have k2 := (unhide V2).f 0
    have k3 := (unhide V2).f 1
    have k4 := (unhide V2).s0 (.int .i64 0)
    have k5 := (unhide V2).s1 (.int .i64 0) (.int .i64 0)
    go_wp2
    refine bodyPost_ret (v := rv 0 0) (by simp [results, Tryz.results101, go_sem, k4, k5]) rfl ⟨rfl, ?_⟩
    repeat (first | exact unhide HB1 | refine below_al ?_ _ | refine Below.drew ?_ | refine below_sc ?_ _ _ _ (by omega))
  · obtain ⟨g, gc, rfl, hss, hg⟩ := texts_some (unhide HT) hp
    have HSS := hide hss
    have hlp : 0 < ps.length := List.length_pos_iff.2 hp
    have HPN := hide hp
    have hln : ((ps.length : Int) == 0) = false := by simp; exact hp
    have a0 := (unhide V1).c0
    have a1 := (unhide V1).c1
    have hpl2 : ps.length ≤ 1048577 := by have := unhide HPL; omega
    clear hss hp HT
    go_wp2_with fail
    refine (unhide CK _).mono ?_
    rintro e w2 ⟨rfl, hb⟩
    have HSS2 := hide ((unhide HSS).below hb (unhide HSS).lt)
    have W1 := hide ((unhide V1).below hb)
    have W2 := hide ((unhide V2).below hb)
    have HB2 := hide (below_on (unhide HB1) hb)
    have hs1 : w.heap.size + 1 < w2.heap.size := (unhide W2).lt
    clear hb a0 a1 HSS V1 V2 HB1 CK
    have hgl : g < w2.heap.size := (unhide HSS2).lt
    cases ok with
    | false =>
      have hz : (x, y) = ((0 : Int), (0 : Int)) := by rw [← unhide HXY, if_pos (.inr rfl)]
      simp only [Prod.mk.injEq] at hz
      obtain ⟨rfl, rfl⟩ := hz
      have k0 := (unhide W2).c0
      have k1 := (unhide W2).c1
      have k2 := (unhide W2).f 0
      have k3 := (unhide W2).f 1
      have k4 := (unhide W2).s0 (.int .i64 0)
      have k5 := (unhide W2).s1 (.int .i64 0) (.int .i64 0)
      go_wp2
      refine bodyPost_ret (v := rv 0 0) (by simp [results, Tryz.results101, go_sem, k4, k5]) rfl ⟨rfl, ?_⟩
      repeat (first | exact unhide HB2 | refine below_al ?_ _ | refine Below.drew ?_ | refine below_sc ?_ _ _ _ (by omega))
    | true =>
      have HF := hide (show ofP l most (a, b) ps = (x, y) by have := unhide HXY; rw [if_neg (by simp; exact unhide HPN)] at this; exact this)
      have a0 := (unhide W1).c0
      have a1 := (unhide W1).c1
      have hw2 := (unhide HB2).size
      clear HXY
      go_wp2
      clear a0 a1
      go_loopw [11] (fun i wr => ∃ (j u v : Int), i = .int .i64 j ∧ -1 ≤ j ∧ j + 2 ≤ ps.length ∧ Hid (ofP l most (a, b) (ps.drop (j + 1).toNat) = (u, v)) ∧ Hid (Var wr 33 w2.heap.size u v) ∧ Hid (SS wr g gc (ps.map bs)) ∧ Hid (Var wr 33 (w.heap.size + 1) 0 0) ∧ Hid (Below w.heap.size w wr)) (fun i _ => (intOf i + 1).toNat)
      case atStart =>
        refine ⟨(ps.length : Int) - 2, a, b, by go_num, by omega, by omega, hide ?_, hide (var_new _ _ _ _), hide ((unhide HSS2).below (below_al (Below.refl _ _) _) hgl), hide ((unhide W2).al _), hide (below_al (unhide HB2) _)⟩
        rw [show ((ps.length : Int) - 2 + 1).toNat = ps.length - 1 by omega]
        exact ofP_last l most (a, b) (unhide HPN)
      case round =>
        obtain ⟨j, u, v, rfl, hj1, hj2, HO, HU, HS, HT, HB⟩ := hrel
        by_cases h0 : 0 ≤ j
        · obtain ⟨k, rfl⟩ : ∃ k : Nat, j = k := ⟨j.toNat, by omega⟩
          have hk1 : k + 1 < ps.length := by omega
          obtain ⟨kk, hkk, hpk, hbn⟩ := unhide HNM ps[k] (List.getElem_mem _)
          have hkl : kk < len := by have := unhide HLL; omega
          obtain ⟨rb, off, rfl, hq⟩ := ((unhide HR).below (unhide HB)).at hkl
          have hqq := hq hkk
          have hst := ofP_step l most (a, b) hk1
          rw [hbn] at hst
          obtain ⟨q, hs⟩ : ∃ q, l[kk] = q := ⟨_, rfl⟩
          rw [hs] at hqq hst
          have e0 : ofP l most (a, b) (ps.drop (k + 1)) = (u, v) := by have := unhide HO; rw [show ((k : Int) + 1).toNat = k + 1 by omega] at this; exact this
          rw [e0] at hst
          simp only at hst
          obtain ⟨c0, c1, c2, c3⟩ := hqq
          have ct := (unhide HS).text (show k < ps.length by omega)
          have u0 := ((unhide HU).al (.cells #[.string (bs q.name), .string (bs q.parent), .int .i64 q.due, .int .i64 q.most] 59)).c0
          have u1 := ((unhide HU).al (.cells #[.string (bs q.name), .string (bs q.parent), .int .i64 q.due, .int .i64 q.most] 59)).c1
          obtain ⟨u', hu'⟩ : ∃ z, shareM u v (fieldOf most q) = z := ⟨_, rfl⟩
          obtain ⟨v', hv'⟩ : ∃ z, shareC u v (fieldOf most q) = z := ⟨_, rfl⟩
          rw [hu', hv'] at hst
          have HNEW := hide (show ofP l most (a, b) (ps.drop ((k : Int) - 1 + 1).toNat) = (u', v') by rw [show ((k : Int) - 1 + 1).toNat = k by omega]; exact hst)
          have hsh : ∀ wx, Calls Tryz.prog 124 #[rv u v, .int .i64 (fieldOf most q)] wx fun e w' => e = .returned (rv u' v') ∧ Below wx.heap.size wx w' := fun wx => by have := specShare_any u v (fieldOf most q) wx; rw [hu', hv'] at this; exact this
          have k00 : (0 : Int) ≤ kk := by omega
          have k01 : (kk : Int) < len := by omega
          have p00 : (0 : Int) ≤ k := by omega
          have p01 : (k : Int) < ps.length := by omega
          clear hq hbn hs hst e0 hu' hv' hkk HO
          cases most with
          | true =>
            have CSh := hide (show ∀ wx, Calls Tryz.prog 124 #[rv u v, .int .i64 q.most] wx fun e w' => e = .returned (rv u' v') ∧ Below wx.heap.size wx w' from hsh)
            clear hsh
            go_wp2_with fail
            refine (unhide CP ps[k] _ (unhide HB)).mono ?_
            rintro e w4 ⟨rfl, rfl⟩
            rw [hpk]
            go_wp2_with fail
            refine (unhide CSh _).mono ?_
            rintro e w5 ⟨rfl, hb⟩
            have U := ((unhide HU).al (.cells #[.string (bs q.name), .string (bs q.parent), .int .i64 q.due, .int .i64 q.most] 59)).below hb
            have HU5 := hide U
            have T := hide (((unhide HT).al (.cells #[.string (bs q.name), .string (bs q.parent), .int .i64 q.due, .int .i64 q.most] 59)).below hb)
            have S5 := hide (((unhide HS).below (below_al (Below.refl _ _) (.cells #[.string (bs q.name), .string (bs q.parent), .int .i64 q.due, .int .i64 q.most] 59)) (unhide HS).lt).below hb (by have := (unhide HS).lt; simp; omega))
            have HB5 := hide (below_on (below_al (unhide HB) (.cells #[.string (bs q.name), .string (bs q.parent), .int .i64 q.due, .int .i64 q.most] 59)) hb)
            have k0 := U.c0
            have k1 := U.c1
            have k2 := U.f 0
            have k3 := U.f 1
            clear hb U c0 c1 c2 c3 ct u0 u1
            go_wp2
            go_roundw
            case rel => exact ⟨(k : Int) - 1, u', v', by go_num, by omega, by omega, HNEW, hide ((unhide HU5).set u' v'), hide (((unhide S5).same (heap_setCell_other _ ⟨w2.heap.size, 0, none⟩ g _ (by simp; omega))).same (heap_setCell_other _ ⟨w2.heap.size, 1, none⟩ g _ (by simp; omega))), hide (((unhide T).other w2.heap.size 0 _ (by omega)).other w2.heap.size 1 _ (by omega)), hide (below_sc (below_sc (unhide HB5) _ _ _ (by omega)) _ _ _ (by omega))⟩
            case measure => simp [intOf]
          | false =>
            have CSh := hide (show ∀ wx, Calls Tryz.prog 124 #[rv u v, .int .i64 q.due] wx fun e w' => e = .returned (rv u' v') ∧ Below wx.heap.size wx w' from hsh)
            clear hsh
            go_wp2_with fail
            refine (unhide CP ps[k] _ (unhide HB)).mono ?_
            rintro e w4 ⟨rfl, rfl⟩
            rw [hpk]
            go_wp2_with fail
            refine (unhide CSh _).mono ?_
            rintro e w5 ⟨rfl, hb⟩
            have U := ((unhide HU).al (.cells #[.string (bs q.name), .string (bs q.parent), .int .i64 q.due, .int .i64 q.most] 59)).below hb
            have HU5 := hide U
            have T := hide (((unhide HT).al (.cells #[.string (bs q.name), .string (bs q.parent), .int .i64 q.due, .int .i64 q.most] 59)).below hb)
            have S5 := hide (((unhide HS).below (below_al (Below.refl _ _) (.cells #[.string (bs q.name), .string (bs q.parent), .int .i64 q.due, .int .i64 q.most] 59)) (unhide HS).lt).below hb (by have := (unhide HS).lt; simp; omega))
            have HB5 := hide (below_on (below_al (unhide HB) (.cells #[.string (bs q.name), .string (bs q.parent), .int .i64 q.due, .int .i64 q.most] 59)) hb)
            have k0 := U.c0
            have k1 := U.c1
            have k2 := U.f 0
            have k3 := U.f 1
            clear hb U c0 c1 c2 c3 ct u0 u1
            go_wp2
            go_roundw
            case rel => exact ⟨(k : Int) - 1, u', v', by go_num, by omega, by omega, HNEW, hide ((unhide HU5).set u' v'), hide (((unhide S5).same (heap_setCell_other _ ⟨w2.heap.size, 0, none⟩ g _ (by simp; omega))).same (heap_setCell_other _ ⟨w2.heap.size, 1, none⟩ g _ (by simp; omega))), hide (((unhide T).other w2.heap.size 0 _ (by omega)).other w2.heap.size 1 _ (by omega)), hide (below_sc (below_sc (unhide HB5) _ _ _ (by omega)) _ _ _ (by omega))⟩
            case measure => simp [intOf]
        · have hjm : j = -1 := by omega
          subst hjm
          have hxx : (u, v) = (x, y) := by rw [← unhide HO, ← unhide HF]; simp
          simp only [Prod.mk.injEq] at hxx
          obtain ⟨rfl, rfl⟩ := hxx
          have u0 := (unhide HU).c0
          have u1 := (unhide HU).c1
          have k0 := (unhide HT).c0
          have k1 := (unhide HT).c1
          have k2 := (unhide HT).f 0
          have k3 := (unhide HT).f 1
          have k4 := (unhide HT).s0 (.int .i64 u)
          have k5 := (unhide HT).s1 (.int .i64 u) (.int .i64 v)
          go_wp2
          refine bodyPost_ret (v := rv u v) (by simp [results, Tryz.results101, go_sem, k4, k5]) rfl ⟨rfl, ?_⟩
          repeat (first | exact unhide HB | refine below_al ?_ _ | refine Below.drew ?_ | refine below_sc ?_ _ _ _ (by omega))
end Go.Proofs.YtcplnodfcchdhaaGreat

/-
  What is due to a queue of a total, and the most that it may have: what the model's l03Of, DueOf and MostOf answer; walks over the dump.
-/
namespace Go.Proofs.YtcplnodfcchdhaaGreat
open Go.RowKit
set_option linter.unusedVariables false
set_option maxRecDepth 100000 in
set_option maxHeartbeats 1000000 in
theorem specMostOf_any (ao : Option Addr) (len cap : Nat) (l : List Q) (nm : List UInt8) (a b : Int) (w : World) (h : QRow w ao len l) (hl : len ≤ 1048576) (hn : ∀ q ∈ l, q.name.length ≤ 1048576) :
    Calls Tryz.prog 60 #[.slice ao len cap, .string (bs nm), rv a b] w fun e w' => e = .returned (rv (ofR l nm a b true).1 (ofR l nm a b true).2) ∧ Below w.heap.size w w' := by
  have HB0 := hide (below_al (below_al (Below.refl _ w) (.cells #[.int .i64 a, .int .i64 b] 33)) (.cells #[.int .i64 0, .int .i64 0] 33))
  have HV2 := hide (var_new2 w 33 33 a b 0 0)
  have C := hide (l03Of_any ao len cap l nm a b true _ (h.below (unhide HB0)) hl hn)
  obtain ⟨⟨x, y⟩, hxy⟩ : ∃ p, ofR l nm a b true = p := ⟨_, rfl⟩
  rw [hxy] at C ⊢
  clear hxy h hn
  go_enter Tryz.func60, Tryz.ntmps60
  go_wp2_with fail
  refine (unhide C).mono ?_
  rintro e w1 ⟨rfl, hb⟩
  have V2 := (unhide HV2).below hb
  have k0 := V2.c0
  have k1 := V2.c1
  have k2 := V2.f 0
  have k3 := V2.f 1
  have k4 := V2.s0 (.int .i64 x)
  have k5 := V2.s1 (.int .i64 x) (.int .i64 y)
  have HB := hide (below_on (unhide HB0) hb)
  clear hb V2 HV2 HB0 C
  go_wp2
  refine bodyPost_ret (v := rv x y) (by simp [results, Tryz.results60, go_sem, k4, k5]) rfl ⟨rfl, ?_⟩
  repeat (first | exact unhide HB | refine below_al ?_ _ | refine Below.drew ?_ | refine below_sc ?_ _ _ _ (by omega))
end Go.Proofs.YtcplnodfcchdhaaGreat

/-
  Whether a queue has room for an amount, by the model: Room; a walk over the dump.
-/
namespace Go.Proofs.YtcplnodfcchdhaaGreat
open Go.RowKit Go.Maps
set_option linter.unusedVariables false
theorem texts_rowS {B : Nat} {w : World} {v : Value} {ps : List (List UInt8)} (h : Texts B w v ps) : ∃ ao cap, v = .slice ao ps.length cap ∧ ∀ j (hj : j < ps.length), ∃ g, ao = some ⟨g, 0, none⟩ ∧ w.cell? ⟨g, j, none⟩ = some (.string (bs ps[j])) := by
  by_cases hp : ps = []
  · subst hp
    obtain ⟨a, cap, rfl⟩ := texts_none h
    exact ⟨a, cap, rfl, fun j hj => by simp at hj⟩
  · obtain ⟨g, cap, rfl, hs, _⟩ := texts_some h hp
    exact ⟨_, cap, rfl, fun j hj => ⟨g, rfl, hs.text hj⟩⟩
theorem path_len21 (s : St) (nm : List UInt8) : (path s.qs nm).length ≤ 1048576 := by
  cases ho : queuesOk s.qs with
  | false => simp [path, ho]
  | true =>
    have h2 := (okT_iff.1 (by have := queuesOk_okT s.qs; rw [ho] at this; simp at this; exact this.1)).2.2
    have := path_len s.qs nm
    omega
set_option maxRecDepth 100000 in
set_option maxHeartbeats 4000000 in
theorem specRoom_any (x : Sls) (s : St) (nm : List UInt8) (rx ry : Int) (w : World) (h : SRow w x s) (hf : FitSt s) :
    Calls Tryz.prog 21 #[sv x s, .string (bs nm), rv rx ry] w fun e w' => e = .returned (.bool (roomV s nm rx ry)) ∧ Below w.heap.size w w' := by
  have hql : x.ql ≤ 1048576 := h.ql hf
  have hml : x.ml ≤ 1048576 := h.ml hf
  have CPath := hide (fun wx (hb : Below w.heap.size w wx) => specPath_any x.qa x.ql x.qc s.qs nm wx (h.1.below hb) hql (fun q hq => (hf.1.2 q hq).1))
  have CT := hide (fun wx (hb : Below w.heap.size w wx) => specTotal_any x s wx (h.2.2.1.below hb) hml)
  have CM := hide (fun wx (hb : Below w.heap.size w wx) (n : List UInt8) => show Calls Tryz.prog 60 #[.slice x.qa x.ql x.qc, .string (bs n), rv (totalV s).1 (totalV s).2] wx (fun e w' => e = .returned (rv (mostV s n).1 (mostV s n).2) ∧ Below wx.heap.size wx w') from specMostOf_any x.qa x.ql x.qc s.qs n (totalV s).1 (totalV s).2 wx (h.1.below hb) hql (fun q hq => (hf.1.2 q hq).1))
  have CU := hide (fun wx (hb : Below w.heap.size w wx) (n : List UInt8) => specUsedBy_any x s n wx (h.below hb) hf)
  have HPL := hide (path_len21 s nm)
  have HRA := hide (fun n : List UInt8 => show roomAt s rx ry n = (bothOk 1 (usedByV s n).1 (usedByV s n).2 rx ry && within ((usedByV s n).1 + 1 * rx) ((usedByV s n).2 + 1 * ry) (mostV s n).1 (mostV s n).2) from rfl)
  obtain ⟨⟨tx, ty⟩, ht⟩ : ∃ t, totalV s = t := ⟨_, rfl⟩
  rw [show (sumR (capsOf s.ms)).1 = tx from congrArg Prod.fst ht, show (sumR (capsOf s.ms)).2.1 = ty from congrArg Prod.snd ht] at CT
  rw [ht] at CM
  obtain ⟨o, ho⟩ : ∃ o, roomV s nm rx ry = o := ⟨_, rfl⟩
  have HO := hide (show (decide (0 < (path s.qs nm).length) && (path s.qs nm).all (roomAt s rx ry)) = o from ho)
  rw [ho]
  obtain ⟨ps, hps⟩ : ∃ p, path s.qs nm = p := ⟨_, rfl⟩
  rw [hps] at CPath HPL HO
  obtain ⟨rf, hrf⟩ : ∃ f, roomAt s rx ry = f := ⟨_, rfl⟩
  rw [hrf] at HRA HO
  obtain ⟨mf, hmf⟩ : ∃ f, mostV s = f := ⟨_, rfl⟩
  rw [hmf] at CM HRA
  obtain ⟨uf, huf⟩ : ∃ f, usedByV s = f := ⟨_, rfl⟩
  rw [huf] at CU HRA
  clear h hf ht hps ho hrf hmf huf
  obtain ⟨qa, ql, qc, aa, al, ac, ma, ml, mc, ca, cl, cc⟩ := x
  obtain ⟨qs, clock, epoch, next, serial, apps, ms, cs⟩ := s
  simp only at CM CU CT CPath hql hml
  have HB0 := hide (roomW_below w (svc ⟨qa, ql, qc, aa, al, ac, ma, ml, mc, ca, cl, cc⟩ ⟨qs, clock, epoch, next, serial, apps, ms, cs⟩) rx ry)
  have V0 := hide (roomW_var w (svc ⟨qa, ql, qc, aa, al, ac, ma, ml, mc, ca, cl, cc⟩ ⟨qs, clock, epoch, next, serial, apps, ms, cs⟩) rx ry)
  have P0 := hide (roomW_box w (svc ⟨qa, ql, qc, aa, al, ac, ma, ml, mc, ca, cl, cc⟩ ⟨qs, clock, epoch, next, serial, apps, ms, cs⟩) rx ry)
  go_enter Tryz.func21, Tryz.ntmps21
  go_wp2_with fail
  refine (unhide CPath _ (unhide HB0)).mono ?_
  rintro e w1 ⟨v, rfl, htx, hb⟩
  have HB1 := hide (below_on (unhide HB0) hb)
  have V1 := hide ((unhide V0).below hb)
  have P1 := hide ((unhide P0).below hb)
  have HTX := hide htx
  obtain ⟨q0, q1, q2, q3, q4, q5, q6, q7⟩ : _ ∧ _ ∧ _ ∧ _ ∧ _ ∧ _ ∧ _ ∧ _ := ⟨(unhide P1).at 0, (unhide P1).at 1, (unhide P1).at 2, (unhide P1).at 3, (unhide P1).at 4, (unhide P1).at 5, (unhide P1).at 6, (unhide P1).at 7⟩
  simp at q0 q1 q2 q3 q4 q5 q6 q7
  clear hb HB0 V0 P0 CPath htx
  go_wp2_with fail
  refine (unhide CT _ (unhide HB1)).mono ?_
  rintro e w2 ⟨rfl, hb⟩
  have HB2 := hide (below_al (below_on (unhide HB1) hb) (.cells #[.int .i64 tx, .int .i64 ty] 33))
  have V2 := hide (((unhide V1).below hb).al (.cells #[.int .i64 tx, .int .i64 ty] 33))
  have P2 := hide (((unhide P1).below hb).al (.cells #[.int .i64 tx, .int .i64 ty] 33))
  have hX2 := ((unhide HTX).below hb).below (below_al (Below.refl _ _) (.cells #[.int .i64 tx, .int .i64 ty] 33))
  have T2 := hide (var_new w2 33 tx ty)
  obtain ⟨po, pc, rfl, hcell⟩ := texts_rowS hX2
  have HC := hide hcell
  clear hb q0 q1 q2 q3 q4 q5 q6 q7 V1 P1 HTX HB1 CT hX2 hcell
  obtain ⟨n, hn⟩ : ∃ n, ps.length = n := ⟨_, rfl⟩
  rw [hn] at HPL HO ⊢
  have HN := hide hn
  have hn2 : n ≤ 1048576 := unhide HPL
  clear hn HPL
  obtain ⟨W2, hW2⟩ : ∃ W, w2.alloc (.cells #[.int .i64 tx, .int .i64 ty] 33) = W := ⟨_, rfl⟩
  rw [hW2] at HB2 V2 P2 T2 HC
  have HW2 := hide hW2
  clear hW2
  go_wp2
  go_loopw [9] (fun i wr => ∃ (k : Nat), k ≤ n ∧ i = .int .i64 k ∧ Hid ((decide (0 < n) && (ps.drop k).all rf) = o) ∧ Hid (Kp W2 wr)) (fun i _ => n - (intOf i).toNat)
  case atStart =>
    obtain rfl := unhide HW2
    exact ⟨0, Nat.zero_le _, rfl, HO, hide (Kp.new _)⟩
  case round =>
    obtain ⟨k, hk, rfl, HQ, HK⟩ := hrel
    have kq := unhide HK
    obtain ⟨q0, q1, q2, q3, q4, q5, q6, q7⟩ : _ ∧ _ ∧ _ ∧ _ ∧ _ ∧ _ ∧ _ ∧ _ := ⟨kq.cell ((unhide P2).at 0), kq.cell ((unhide P2).at 1), kq.cell ((unhide P2).at 2), kq.cell ((unhide P2).at 3), kq.cell ((unhide P2).at 4), kq.cell ((unhide P2).at 5), kq.cell ((unhide P2).at 6), kq.cell ((unhide P2).at 7)⟩
    have r0 := kq.cell (unhide V2).c0
    have r1 := kq.cell (unhide V2).c1
    have t0 := kq.cell (unhide T2).c0
    have t1 := kq.cell (unhide T2).c1
    have HBr := hide (below_on (unhide HB2) kq)
    clear kq
    by_cases hlt : k < n
    · have hkl : k < ps.length := by have := unhide HN; omega
      obtain ⟨pg, rfl, hc0⟩ := unhide HC k hkl
      have c0 := (unhide HK).cell hc0
      have hst : (ps.drop k).all rf = (rf ps[k] && (ps.drop (k + 1)).all rf) := by rw [List.drop_eq_getElem_cons hkl, List.all_cons]
      have HST := hide hst
      obtain ⟨nx, hs⟩ : ∃ s, ps[k] = s := ⟨_, rfl⟩
      rw [hs] at c0 HST
      have HRF := hide (unhide HRA nx)
      have CUk := hide (fun wx hb => unhide CU wx hb nx)
      have CMk := hide (fun wx hb => unhide CM wx hb nx)
      obtain ⟨⟨ux, uy⟩, hu⟩ : ∃ u, uf nx = u := ⟨_, rfl⟩
      obtain ⟨⟨mx, my⟩, hm⟩ : ∃ u, mf nx = u := ⟨_, rfl⟩
      rw [hu] at CUk HRF
      rw [hm] at CMk HRF
      simp only at CUk CMk HRF
      have k0 : (0 : Int) ≤ k := by omega
      have k1 : (k : Int) < n := by omega
      have CA := hide (fun wx => specAdd_any ux uy rx ry wx)
      obtain ⟨x', y', ok, hv⟩ : ∃ x' y' ok, bothV 1 ux uy rx ry = rv x' y' ∧ bothOk 1 ux uy rx ry = ok ∧ (ok = true → x' = ux + 1 * rx ∧ y' = uy + 1 * ry) := by
        cases hb : bothOk 1 ux uy rx ry
        · exact ⟨0, 0, _, both_no hb, rfl, by simp⟩
        · exact ⟨_, _, _, both_yes hb, rfl, fun _ => ⟨rfl, rfl⟩⟩
      have HVV := hide hv.2.2
      rw [hv.1, hv.2.1] at CA
      rw [hv.2.1] at HRF
      have R : ∀ wx, Kp wr wx → wx.cell? ⟨w.heap.size, 0, none⟩ = some (.slice qa ql qc) ∧ wx.cell? ⟨w.heap.size, 1, none⟩ = some (.int .i64 clock) ∧ wx.cell? ⟨w.heap.size, 2, none⟩ = some (.int .i64 epoch) ∧ wx.cell? ⟨w.heap.size, 3, none⟩ = some (.int .i64 next) ∧ wx.cell? ⟨w.heap.size, 4, none⟩ = some (.int .i64 serial) ∧ wx.cell? ⟨w.heap.size, 5, none⟩ = some (.slice aa al ac) ∧ wx.cell? ⟨w.heap.size, 6, none⟩ = some (.slice ma ml mc) ∧ wx.cell? ⟨w.heap.size, 7, none⟩ = some (.slice ca cl cc) ∧ wx.cell? ⟨w.heap.size + 1, 0, none⟩ = some (.int .i64 rx) ∧ wx.cell? ⟨w.heap.size + 1, 1, none⟩ = some (.int .i64 ry) ∧ wx.cell? ⟨pg, k, none⟩ = some (.string (bs nx)) := fun wx h =>
        ⟨h.cell q0, h.cell q1, h.cell q2, h.cell q3, h.cell q4, h.cell q5, h.cell q6, h.cell q7, h.cell r0, h.cell r1, h.cell c0⟩
      have A0 := hide (Kp.new wr)
      have HS := hide (kp_holds wr)
      have hwr : w.heap.size + 1 < wr.heap.size := cell_lt r0
      clear hc0 hkl hs hu hm hv hst
      go_wp2_with fail
      go_cut [10, 11] from 24 to 34 (fun v7 v8 wx => ∃ g, v7 = .pointer (some ⟨g, 0, none⟩) ∧ v8 = .bool ok ∧ Kp wr wx ∧ Var wx 33 g x' y')
      case first =>
        go_region_held3 (fun wx => Kp wr wx)
          (first | (with_reducible assumption) | exact unhide SA | exact (unhide HS).drew (unhide A0) | exact (unhide HS).al (unhide SA) _ | exact (unhide HS).al (by assumption) _ | exact (unhide HS).al ((unhide HS).drew (unhide A0)) _ | exact (unhide HS).call (by assumption) (by assumption) | exact (unhide HS).set2 (unhide SA) _ _ _ (by first | omega | (simp <;> omega)) | exact (unhide HS).set2 (by assumption) _ _ _ (by first | omega | (simp <;> omega)))
          (first
          | (go_at_call 19; refine (unhide CUk _ ?_).mono ?_; (exact below_on (unhide HBr) ((unhide HS).below (by assumption))); rintro e wt ⟨rfl, hb⟩; have SA := hide ((unhide HS).call (by assumption) hb); have sz := (unhide HS).size (unhide SA)
             first
               | (have V5 := (var_new _ 33 0 0).below hb; (try simp at V5); have c50 := V5.c0; have c51 := V5.c1; have f50 := V5.f 0; have f51 := V5.f 1; have V5 := hide V5)
               | (have V5 := (var_new _ 33 0 0).drew.below hb; (try simp at V5); have c50 := V5.c0; have c51 := V5.c1; have f50 := V5.f 0; have f51 := V5.f 1; have V5 := hide V5)
               | skip)
          | (go_at_call 58; refine (unhide CA _).mono ?_; rintro e wt ⟨rfl, hb⟩; have SA := hide ((unhide HS).call (by assumption) hb); have sz := (unhide HS).size (unhide SA)
             first
               | (have V5 := (var_new _ 33 0 0).below hb; (try simp at V5); have c50 := V5.c0; have c51 := V5.c1; have f50 := V5.f 0; have f51 := V5.f 1; have V5 := hide V5)
               | (have V5 := (var_new _ 33 0 0).drew.below hb; (try simp at V5); have c50 := V5.c0; have c51 := V5.c1; have f50 := V5.f 0; have f51 := V5.f 1; have V5 := hide V5)
               | (have V5 := hide ((unhide V5).below hb); have c50 := (unhide V5).c0; have c51 := (unhide V5).c1; have f50 := (unhide V5).f 0; have f51 := (unhide V5).f 1)
               | skip))
        all_goals
          go_wp2_with fail
          go_meet
          exact ⟨_, rfl, rfl, by first | assumption | exact unhide SA | exact (unhide HS).al (unhide SA) _, by first | exact var_new _ _ _ _ | exact (unhide V5).set _ _⟩
      case rest =>
        obtain ⟨g, rfl, rfl, hA, hV⟩ := hcut
        obtain ⟨w4, rfl⟩ : ∃ w4, w4 = wc := ⟨wc, rfl⟩
        have HK4 := hide (show Kp W2 w4 from below_on (unhide HK) hA)
        have HB4 := hide (below_on (unhide HBr) hA)
        have g0 := hA.cell q0
        have e0 := hA.cell t0
        have e1 := hA.cell t1
        have d0 := hA.cell c0
        have s0 := hV.c0
        have s1 := hV.c1
        clear hA hV A0 HS R CA CUk q0 q1 q2 q3 q4 q5 q6 q7 r0 r1 t0 t1 c0
        have A0 := hide (Kp.new w4)
        have HS := hide (kp_holds w4)
        obtain ⟨pv, hpv⟩ : ∃ o, rf nx = o := ⟨_, rfl⟩
        rw [hpv] at HST HRF
        clear hpv
        go_wp2_with fail
        go_cut [49] from 35 to 48 (fun v49 wx => v49 = .bool (!pv) ∧ Kp w4 wx)
        case first =>
          cases ok with
          | false =>
            obtain rfl : pv = false := by rw [unhide HRF]; rfl
            go_quiet (fail)
            all_goals
              go_wp2_with fail
              go_meet
              exact ⟨rfl, below_dn (Below.refl _ _) _⟩
          | true =>
            obtain ⟨rfl, rfl⟩ := unhide HVV rfl
            have HRF2 := hide (show pv = within (ux + 1 * rx) (uy + 1 * ry) mx my by rw [unhide HRF]; rfl)
            have CW := hide (fun wx => by have := specWithin_any (ux + 1 * rx) (uy + 1 * ry) mx my wx; rw [← unhide HRF2] at this; exact this)
            obtain ⟨sx, hsx⟩ : ∃ a, ux + 1 * rx = a := ⟨_, rfl⟩
            obtain ⟨sy, hsy⟩ : ∃ a, uy + 1 * ry = a := ⟨_, rfl⟩
            rw [hsx] at s0 CW
            rw [hsy] at s1 CW
            have R : ∀ wx, Kp w4 wx → wx.cell? ⟨w.heap.size, 0, none⟩ = some (.slice qa ql qc) ∧ wx.cell? ⟨w2.heap.size, 0, none⟩ = some (.int .i64 tx) ∧ wx.cell? ⟨w2.heap.size, 1, none⟩ = some (.int .i64 ty) ∧ wx.cell? ⟨pg, k, none⟩ = some (.string (bs nx)) ∧ wx.cell? ⟨g, 0, none⟩ = some (.int .i64 sx) ∧ wx.cell? ⟨g, 1, none⟩ = some (.int .i64 sy) := fun wx h => ⟨h.cell g0, h.cell e0, h.cell e1, h.cell d0, h.cell s0, h.cell s1⟩
            clear hsx hsy HRF HRF2 HVV
            go_region_held3 (fun wx => Kp w4 wx)
              (first | (with_reducible assumption) | exact unhide SA | exact (unhide HS).drew (unhide A0) | exact (unhide HS).call (by assumption) (by assumption))
              (first
              | (go_at_call 60; refine (unhide CMk _ ?_).mono ?_; (exact below_on (unhide HB4) ((unhide HS).below (by assumption))); rintro e wt ⟨rfl, hb⟩; have SA := hide ((unhide HS).call (by assumption) hb))
              | (go_at_call 59; refine (unhide CW _).mono ?_; rintro e wt2 ⟨rfl, hb⟩; have SA := hide ((unhide HS).call (by assumption) hb)))
            all_goals
              go_wp2_with fail
              go_meet
              exact ⟨rfl, by first | assumption | exact unhide SA⟩
        case rest =>
          obtain ⟨rfl, hA⟩ := hcut
          have HK5 := hide (show Kp W2 wc from below_on (unhide HK4) hA)
          have HB5 := hide (below_on (unhide HB4) hA)
          clear hA g0 e0 e1 d0 s0 s1 A0 HS HVV
          cases pv with
          | true =>
            have HQ2 := hide (show (decide (0 < n) && (ps.drop (k + 1)).all rf) = o by have := unhide HQ; rw [unhide HST] at this; simpa using this)
            go_wp2
            go_roundw
            case rel => exact ⟨k + 1, by omega, by go_num, HQ2, HK5⟩
            case measure => simp [intOf]; omega
          | false =>
            obtain rfl : o = false := by have := unhide HQ; rw [unhide HST] at this; simpa using this.symm
            go_wp2
            go_ret
            exact ⟨rfl, unhide HB5⟩
    · have ho : o = decide (0 < n) := by have := unhide HQ; rw [List.drop_of_length_le (by have := unhide HN; omega)] at this; simpa using this.symm
      subst ho
      clear q0 q1 q2 q3 q4 q5 q6 q7 r0 r1 t0 t1
      go_wp2
      go_ret
      exact ⟨rfl, unhide HBr⟩
end Go.Proofs.YtcplnodfcchdhaaGreat
