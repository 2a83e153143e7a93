/-
  What is due to a queue of a total, and the most that it may have: what the model's l03Of, DueOf and MostOf answer; walks over the dump.
-/
import Derived.Test.YtbapainfiepadaaOfM
import Derived.Test.YtbapainfiepadaaPathS
import Derived.Test.YtbapainfiepadaaTextsR
namespace Go.Proofs.Ytbapainfiepadaa
open Go.RowKit
set_option linter.unusedVariables false

set_option maxRecDepth 100000 in
set_option maxHeartbeats 4000000 in
theorem l03Of_any (ao : Option Addr) (len cap : Nat) (l : List Q) (nm : List UInt8) (a b : Int) (most : Bool) (w : World) (h : QRow w ao len l) (hl : len ≤ 1048576) (hn : ∀ q ∈ l, q.name.length ≤ 1048576) :
    Calls Try.prog 37 #[.slice ao len cap, .string (bs nm), rv a b, .bool most] w fun e w' => e = .returned (rv (ofR l nm a b most).1 (ofR l nm a b most).2) ∧ Below w.heap.size w w' := by
  have HR := hide h
  have HV1 := hide ((var_new w 26 a b).al (.cells #[.int .i64 0, .int .i64 0] 26))
  have HV2 := hide (var_new2 w 26 26 a b 0 0)
  have HB0 := hide (below_al (below_al (Below.refl _ w) (.cells #[.int .i64 a, .int .i64 b] 26)) (.cells #[.int .i64 0, .int .i64 0] 26))
  have CPath := hide (specPath_any ao len cap l nm _ (h.below (unhide HB0)) hl hn)
  have CP := hide (fun (x : List UInt8) wx (hb : Below w.heap.size w wx) => l03Place_any ao len cap l x wx (h.below hb) hl)
  have CK := hide (specResOk_bel a b)
  have hpl := path_len l nm
  have HPL := hide (show (path l nm).length ≤ len + 1 by have := h.1; omega)
  have HNM := hide (path_names (l := l) (nm := nm))
  obtain ⟨ps, hps⟩ : ∃ ps, path l nm = ps := ⟨_, rfl⟩
  obtain ⟨ok, hok⟩ : ∃ ok, resOk a b = ok := ⟨_, rfl⟩
  rw [hps] at CPath HPL HNM
  rw [hok] at CK
  obtain ⟨⟨x, y⟩, hxy⟩ : ∃ p, ofR l nm a b most = p := ⟨_, rfl⟩
  rw [hxy]
  have HXY := hide (show (if ps = [] ∨ ok = false then ((0 : Int), (0 : Int)) else ofP l most (a, b) ps) = (x, y) by rw [← hxy, ofR, hps, hok])
  have HLL := hide h.1
  clear h hn hps hok hxy hpl
  go_enter Try.func37, Try.ntmps37
  go_wp2_with fail
  refine (unhide CPath).mono ?_
  rintro e w1 ⟨v, rfl, ht, hb⟩
  have V1 := hide ((unhide HV1).below hb)
  have V2 := hide ((unhide HV2).below hb)
  have HB1 := hide (below_on (unhide HB0) hb)
  have HT := hide ht
  clear ht hb HV1 HV2 HB0 CPath
  by_cases hp : ps = []
  · subst hp
    obtain ⟨va, vc, rfl⟩ := texts_none (unhide HT)
    have hz : (x, y) = ((0 : Int), (0 : Int)) := by rw [← unhide HXY, if_pos (.inl rfl)]
    simp only [Prod.mk.injEq] at hz
    obtain ⟨rfl, rfl⟩ := hz
    have k0 := (unhide V2).c0
    have k1 := (unhide V2).c1
    have k2 := (unhide V2).f 0
    have k3 := (unhide V2).f 1
    have k4 := (unhide V2).s0 (.int .i64 0)
    have k5 := (unhide V2).s1 (.int .i64 0) (.int .i64 0)
    go_wp2
    refine bodyPost_ret (v := rv 0 0) (by simp [results, Try.results37, go_sem, k4, k5]) rfl ⟨rfl, ?_⟩
    repeat (first | exact unhide HB1 | refine below_al ?_ _ | refine Below.drew ?_ | refine below_sc ?_ _ _ _ (by omega))
  · obtain ⟨g, gc, rfl, hss, hg⟩ := texts_some (unhide HT) hp
    have HSS := hide hss
    have hlp : 0 < ps.length := List.length_pos_iff.2 hp
    have HPN := hide hp
    have hln : ((ps.length : Int) == 0) = false := by simp; exact hp
    have a0 := (unhide V1).c0
    have a1 := (unhide V1).c1
    have hpl2 : ps.length ≤ 1048577 := by have := unhide HPL; omega
    clear hss hp HT
    go_wp2_with fail
    refine (unhide CK _).mono ?_
    rintro e w2 ⟨rfl, hb⟩
    have HSS2 := hide ((unhide HSS).below hb (unhide HSS).lt)
    have W1 := hide ((unhide V1).below hb)
    have W2 := hide ((unhide V2).below hb)
    have HB2 := hide (below_on (unhide HB1) hb)
    have hs1 : w.heap.size + 1 < w2.heap.size := (unhide W2).lt
    clear hb a0 a1 HSS V1 V2 HB1 CK
    have hgl : g < w2.heap.size := (unhide HSS2).lt
    cases ok with
    | false =>
      have hz : (x, y) = ((0 : Int), (0 : Int)) := by rw [← unhide HXY, if_pos (.inr rfl)]
      simp only [Prod.mk.injEq] at hz
      obtain ⟨rfl, rfl⟩ := hz
      have k0 := (unhide W2).c0
      have k1 := (unhide W2).c1
      have k2 := (unhide W2).f 0
      have k3 := (unhide W2).f 1
      have k4 := (unhide W2).s0 (.int .i64 0)
      have k5 := (unhide W2).s1 (.int .i64 0) (.int .i64 0)
      go_wp2
      refine bodyPost_ret (v := rv 0 0) (by simp [results, Try.results37, go_sem, k4, k5]) rfl ⟨rfl, ?_⟩
      repeat (first | exact unhide HB2 | refine below_al ?_ _ | refine Below.drew ?_ | refine below_sc ?_ _ _ _ (by omega))
    | true =>
      have HF := hide (show ofP l most (a, b) ps = (x, y) by have := unhide HXY; rw [if_neg (by simp; exact unhide HPN)] at this; exact this)
      have a0 := (unhide W1).c0
      have a1 := (unhide W1).c1
      have hw2 := (unhide HB2).size
      clear HXY
      go_wp2
      clear a0 a1
      go_loopw [11] (fun i wr => ∃ (j u v : Int), i = .int .i64 j ∧ -1 ≤ j ∧ j + 2 ≤ ps.length ∧ Hid (ofP l most (a, b) (ps.drop (j + 1).toNat) = (u, v)) ∧ Hid (Var wr 26 w2.heap.size u v) ∧ Hid (SS wr g gc (ps.map bs)) ∧ Hid (Var wr 26 (w.heap.size + 1) 0 0) ∧ Hid (Below w.heap.size w wr)) (fun i _ => (intOf i + 1).toNat)
      case atStart =>
        refine ⟨(ps.length : Int) - 2, a, b, by go_num, by omega, by omega, hide ?_, hide (var_new _ _ _ _), hide ((unhide HSS2).below (below_al (Below.refl _ _) _) hgl), hide ((unhide W2).al _), hide (below_al (unhide HB2) _)⟩
        rw [show ((ps.length : Int) - 2 + 1).toNat = ps.length - 1 by omega]
        exact ofP_last l most (a, b) (unhide HPN)
      case round =>
        obtain ⟨j, u, v, rfl, hj1, hj2, HO, HU, HS, HT, HB⟩ := hrel
        by_cases h0 : 0 ≤ j
        · obtain ⟨k, rfl⟩ : ∃ k : Nat, j = k := ⟨j.toNat, by omega⟩
          have hk1 : k + 1 < ps.length := by omega
          obtain ⟨kk, hkk, hpk, hbn⟩ := unhide HNM ps[k] (List.getElem_mem _)
          have hkl : kk < len := by have := unhide HLL; omega
          obtain ⟨rb, off, rfl, hq⟩ := ((unhide HR).below (unhide HB)).at hkl
          have hqq := hq hkk
          have hst := ofP_step l most (a, b) hk1
          rw [hbn] at hst
          obtain ⟨q, hs⟩ : ∃ q, l[kk] = q := ⟨_, rfl⟩
          rw [hs] at hqq hst
          have e0 : ofP l most (a, b) (ps.drop (k + 1)) = (u, v) := by have := unhide HO; rw [show ((k : Int) + 1).toNat = k + 1 by omega] at this; exact this
          rw [e0] at hst
          simp only at hst
          obtain ⟨c0, c1, c2, c3⟩ := hqq
          have ct := (unhide HS).text (show k < ps.length by omega)
          have u0 := ((unhide HU).al (.cells #[.string (bs q.name), .string (bs q.parent), .int .i64 q.due, .int .i64 q.most] 35)).c0
          have u1 := ((unhide HU).al (.cells #[.string (bs q.name), .string (bs q.parent), .int .i64 q.due, .int .i64 q.most] 35)).c1
          obtain ⟨u', hu'⟩ : ∃ z, shareM u v (fieldOf most q) = z := ⟨_, rfl⟩
          obtain ⟨v', hv'⟩ : ∃ z, shareC u v (fieldOf most q) = z := ⟨_, rfl⟩
          rw [hu', hv'] at hst
          have HNEW := hide (show ofP l most (a, b) (ps.drop ((k : Int) - 1 + 1).toNat) = (u', v') by rw [show ((k : Int) - 1 + 1).toNat = k by omega]; exact hst)
          have hsh : ∀ wx, Calls Try.prog 61 #[rv u v, .int .i64 (fieldOf most q)] wx fun e w' => e = .returned (rv u' v') ∧ Below wx.heap.size wx w' := fun wx => by have := specShare_any u v (fieldOf most q) wx; rw [hu', hv'] at this; exact this
          have k00 : (0 : Int) ≤ kk := by omega
          have k01 : (kk : Int) < len := by omega
          have p00 : (0 : Int) ≤ k := by omega
          have p01 : (k : Int) < ps.length := by omega
          clear hq hbn hs hst e0 hu' hv' hkk HO
          cases most with
          | true =>
            have CSh := hide (show ∀ wx, Calls Try.prog 61 #[rv u v, .int .i64 q.most] wx fun e w' => e = .returned (rv u' v') ∧ Below wx.heap.size wx w' from hsh)
            clear hsh
            go_wp2_with fail
            refine (unhide CP ps[k] _ (unhide HB)).mono ?_
            rintro e w4 ⟨rfl, rfl⟩
            rw [hpk]
            go_wp2_with fail
            refine (unhide CSh _).mono ?_
            rintro e w5 ⟨rfl, hb⟩
            have U := ((unhide HU).al (.cells #[.string (bs q.name), .string (bs q.parent), .int .i64 q.due, .int .i64 q.most] 35)).below hb
            have HU5 := hide U
            have T := hide (((unhide HT).al (.cells #[.string (bs q.name), .string (bs q.parent), .int .i64 q.due, .int .i64 q.most] 35)).below hb)
            have S5 := hide (((unhide HS).below (below_al (Below.refl _ _) (.cells #[.string (bs q.name), .string (bs q.parent), .int .i64 q.due, .int .i64 q.most] 35)) (unhide HS).lt).below hb (by have := (unhide HS).lt; simp; omega))
            have HB5 := hide (below_on (below_al (unhide HB) (.cells #[.string (bs q.name), .string (bs q.parent), .int .i64 q.due, .int .i64 q.most] 35)) hb)
            have k0 := U.c0
            have k1 := U.c1
            have k2 := U.f 0
            have k3 := U.f 1
            clear hb U c0 c1 c2 c3 ct u0 u1
            go_wp2
            go_roundw
            case rel => exact ⟨(k : Int) - 1, u', v', by go_num, by omega, by omega, HNEW, hide ((unhide HU5).set u' v'), hide (((unhide S5).same (heap_setCell_other _ ⟨w2.heap.size, 0, none⟩ g _ (by simp; omega))).same (heap_setCell_other _ ⟨w2.heap.size, 1, none⟩ g _ (by simp; omega))), hide (((unhide T).other w2.heap.size 0 _ (by omega)).other w2.heap.size 1 _ (by omega)), hide (below_sc (below_sc (unhide HB5) _ _ _ (by omega)) _ _ _ (by omega))⟩
            case measure => simp [intOf]
          | false =>
            have CSh := hide (show ∀ wx, Calls Try.prog 61 #[rv u v, .int .i64 q.due] wx fun e w' => e = .returned (rv u' v') ∧ Below wx.heap.size wx w' from hsh)
            clear hsh
            go_wp2_with fail
            refine (unhide CP ps[k] _ (unhide HB)).mono ?_
            rintro e w4 ⟨rfl, rfl⟩
            rw [hpk]
            go_wp2_with fail
            refine (unhide CSh _).mono ?_
            rintro e w5 ⟨rfl, hb⟩
            have U := ((unhide HU).al (.cells #[.string (bs q.name), .string (bs q.parent), .int .i64 q.due, .int .i64 q.most] 35)).below hb
            have HU5 := hide U
            have T := hide (((unhide HT).al (.cells #[.string (bs q.name), .string (bs q.parent), .int .i64 q.due, .int .i64 q.most] 35)).below hb)
            have S5 := hide (((unhide HS).below (below_al (Below.refl _ _) (.cells #[.string (bs q.name), .string (bs q.parent), .int .i64 q.due, .int .i64 q.most] 35)) (unhide HS).lt).below hb (by have := (unhide HS).lt; simp; omega))
            have HB5 := hide (below_on (below_al (unhide HB) (.cells #[.string (bs q.name), .string (bs q.parent), .int .i64 q.due, .int .i64 q.most] 35)) hb)
            have k0 := U.c0
            have k1 := U.c1
            have k2 := U.f 0
            have k3 := U.f 1
            clear hb U c0 c1 c2 c3 ct u0 u1
            go_wp2
            go_roundw
            case rel => exact ⟨(k : Int) - 1, u', v', by go_num, by omega, by omega, HNEW, hide ((unhide HU5).set u' v'), hide (((unhide S5).same (heap_setCell_other _ ⟨w2.heap.size, 0, none⟩ g _ (by simp; omega))).same (heap_setCell_other _ ⟨w2.heap.size, 1, none⟩ g _ (by simp; omega))), hide (((unhide T).other w2.heap.size 0 _ (by omega)).other w2.heap.size 1 _ (by omega)), hide (below_sc (below_sc (unhide HB5) _ _ _ (by omega)) _ _ _ (by omega))⟩
            case measure => simp [intOf]
        · have hjm : j = -1 := by omega
          subst hjm
          have hxx : (u, v) = (x, y) := by rw [← unhide HO, ← unhide HF]; simp
          simp only [Prod.mk.injEq] at hxx
          obtain ⟨rfl, rfl⟩ := hxx
          have u0 := (unhide HU).c0
          have u1 := (unhide HU).c1
          have k0 := (unhide HT).c0
          have k1 := (unhide HT).c1
          have k2 := (unhide HT).f 0
          have k3 := (unhide HT).f 1
          have k4 := (unhide HT).s0 (.int .i64 u)
          have k5 := (unhide HT).s1 (.int .i64 u) (.int .i64 v)
          go_wp2
          refine bodyPost_ret (v := rv u v) (by simp [results, Try.results37, go_sem, k4, k5]) rfl ⟨rfl, ?_⟩
          repeat (first | exact unhide HB | refine below_al ?_ _ | refine Below.drew ?_ | refine below_sc ?_ _ _ _ (by omega))

set_option maxRecDepth 100000 in
set_option maxHeartbeats 1000000 in
theorem specDueOf_any (ao : Option Addr) (len cap : Nat) (l : List Q) (nm : List UInt8) (a b : Int) (w : World) (h : QRow w ao len l) (hl : len ≤ 1048576) (hn : ∀ q ∈ l, q.name.length ≤ 1048576) :
    Calls Try.prog 13 #[.slice ao len cap, .string (bs nm), rv a b] w fun e w' => e = .returned (rv (ofR l nm a b false).1 (ofR l nm a b false).2) ∧ Below w.heap.size w w' := by
  have HB0 := hide (below_al (below_al (Below.refl _ w) (.cells #[.int .i64 a, .int .i64 b] 26)) (.cells #[.int .i64 0, .int .i64 0] 26))
  have HV2 := hide (var_new2 w 26 26 a b 0 0)
  have C := hide (l03Of_any ao len cap l nm a b false _ (h.below (unhide HB0)) hl hn)
  obtain ⟨⟨x, y⟩, hxy⟩ : ∃ p, ofR l nm a b false = p := ⟨_, rfl⟩
  rw [hxy] at C ⊢
  clear hxy h hn
  go_enter Try.func13, Try.ntmps13
  go_wp2_with fail
  refine (unhide C).mono ?_
  rintro e w1 ⟨rfl, hb⟩
  have V2 := (unhide HV2).below hb
  have k0 := V2.c0
  have k1 := V2.c1
  have k2 := V2.f 0
  have k3 := V2.f 1
  have k4 := V2.s0 (.int .i64 x)
  have k5 := V2.s1 (.int .i64 x) (.int .i64 y)
  have HB := hide (below_on (unhide HB0) hb)
  clear hb V2 HV2 HB0 C
  go_wp2
  refine bodyPost_ret (v := rv x y) (by simp [results, Try.results13, go_sem, k4, k5]) rfl ⟨rfl, ?_⟩
  repeat (first | exact unhide HB | refine below_al ?_ _ | refine Below.drew ?_ | refine below_sc ?_ _ _ _ (by omega))

set_option maxRecDepth 100000 in
set_option maxHeartbeats 1000000 in
theorem specMostOf_any (ao : Option Addr) (len cap : Nat) (l : List Q) (nm : List UInt8) (a b : Int) (w : World) (h : QRow w ao len l) (hl : len ≤ 1048576) (hn : ∀ q ∈ l, q.name.length ≤ 1048576) :
    Calls Try.prog 14 #[.slice ao len cap, .string (bs nm), rv a b] w fun e w' => e = .returned (rv (ofR l nm a b true).1 (ofR l nm a b true).2) ∧ Below w.heap.size w w' := by
  have HB0 := hide (below_al (below_al (Below.refl _ w) (.cells #[.int .i64 a, .int .i64 b] 26)) (.cells #[.int .i64 0, .int .i64 0] 26))
  have HV2 := hide (var_new2 w 26 26 a b 0 0)
  have C := hide (l03Of_any ao len cap l nm a b true _ (h.below (unhide HB0)) hl hn)
  obtain ⟨⟨x, y⟩, hxy⟩ : ∃ p, ofR l nm a b true = p := ⟨_, rfl⟩
  rw [hxy] at C ⊢
  clear hxy h hn
  go_enter Try.func14, Try.ntmps14
  go_wp2_with fail
  refine (unhide C).mono ?_
  rintro e w1 ⟨rfl, hb⟩
  have V2 := (unhide HV2).below hb
  have k0 := V2.c0
  have k1 := V2.c1
  have k2 := V2.f 0
  have k3 := V2.f 1
  have k4 := V2.s0 (.int .i64 x)
  have k5 := V2.s1 (.int .i64 x) (.int .i64 y)
  have HB := hide (below_on (unhide HB0) hb)
  clear hb V2 HV2 HB0 C
  go_wp2
  refine bodyPost_ret (v := rv x y) (by simp [results, Try.results14, go_sem, k4, k5]) rfl ⟨rfl, ?_⟩
  repeat (first | exact unhide HB | refine below_al ?_ _ | refine Below.drew ?_ | refine below_sc ?_ _ _ _ (by omega))
end Go.Proofs.Ytbapainfiepadaa
