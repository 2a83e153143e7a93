/-
  Queues read from their text: what the model's ReadQueues answers; a walk over the dump.
-/
import Derived.Test.YtebaejokhpdbkaaGreatDoorLineS
import Derived.Test.YtebaejokhpdbkaaGreatDoorPackD
import Derived.Test.YtebaejokhpdbkaaGreatDoorQueuesOkS
namespace Go.Proofs.YtebaejokhpdbkaaGreatDoor
open Go.RowKit
set_option linter.unusedVariables false

theorem ext_mid (s : ByteArray) (f k : Nat) : (s.extract f k).data.toList = (s.data.toList.drop f).take (k - f) := by simp [List.take_drop]
theorem QOwn.base {w : World} {B B' : Nat} {v : Value} {l : List Q} (h : QOwn B w v l) (hb : B' ≤ B) : QOwn B' w v l := by
  obtain ⟨h1, h2⟩ := h
  refine ⟨h1, ?_⟩
  rcases h2 with h2 | ⟨g, cap, cur, a, b, c⟩
  · exact .inl h2
  · exact .inr ⟨g, cap, cur, a, Nat.le_trans hb b, c⟩
theorem lineS_name (l : List UInt8) : (lineS l).1.name.length ≤ l.length := by
  unfold lineS
  split
  · rename_i a b c d e
    exact words_size a (by rw [e]; simp)
  · simp [zq]
theorem okT_short {l : List Q} (h : okT l = true) : ∀ q ∈ l, q.name.length ≤ 1048576 := fun q hq => by
  have := okT_names h q hq
  simp only [nameOk, inB, Bool.and_eq_true, decide_eq_true_eq] at this
  omega
theorem ok_more {acc : List Q} (h : okT acc = true) (q : Q) : queuesOk (acc ++ [q]) = fits acc q := by
  rw [queuesOk_okT, okT_snoc, h]; simp
/-- where the line that began at f ends -/
theorem nl_at {L : List UInt8} {f k : Nat} (hk : k < L.length) (hf : f ≤ k) (h : ∀ j (hj : j < L.length), f ≤ j → j < k → L[j] ≠ 10) (h10 : L[k] = 10) : nlAt (L.drop f) = k - f := by
  refine nlAt_hit _ _ (by simp; omega) (fun j hj => ?_) ?_
  · rw [List.getElem_drop]; exact h (f + j) (by omega) (by omega) (by omega)
  · rw [List.getElem_drop]; simpa [show f + (k - f) = k by omega] using h10
theorem nl_no {L : List UInt8} {f : Nat} (h : ∀ j (hj : j < L.length), f ≤ j → L[j] ≠ 10) : nlAt (L.drop f) = (L.drop f).length := by
  refine nlAt_none _ (fun j hj => ?_)
  rw [List.getElem_drop]; exact h (f + j) (by simp at hj; omega) (by omega)

set_option maxRecDepth 100000 in
set_option maxHeartbeats 4000000 in
theorem specReadQueues_any (s : ByteArray) (w : World) (hs : s.size ≤ 1048576) :
    Calls Tryz.prog 9 #[.string s] w fun e w' => ∃ v, e = .returned (.tuple #[v, .int .i64 ((rd [] s.data.toList).2 : Int)]) ∧ QOwn w.heap.size w' v (rd [] s.data.toList).1 ∧ Below w.heap.size w w' := by
  obtain ⟨i0, hi, hz0, hz1, hz2⟩ := info_parts Tryz.infoQ
  obtain ⟨⟨rl, rn⟩, hr⟩ : ∃ p, rd [] s.data.toList = p := ⟨_, rfl⟩
  rw [hr]
  have HR0 := hide (show rd [] s.data.toList = rd [] (s.data.toList.drop 0) by simp)
  have HRR := hide hr
  have HO0 := hide (qown_empty w)
  have HB0 := hide (below_al (Below.refl _ w) (.cells #[] 39))
  have hlen : s.data.toList.length = s.size := len_eq s
  clear hr
  simp only
  go_enter Tryz.func9, Tryz.ntmps9
  go_wp2
  go_loopw [4, 5, 6, 7, 8, 9] (fun v a b i _ _ wr => ∃ (f k : Nat) (acc : List Q), f ≤ k ∧ k ≤ s.size ∧ a = .int .i64 f ∧ i = .int .i64 k ∧ b = .int .i64 ((acc.length : Int) + 1) ∧ acc.length ≤ 20 ∧ Hid (okT acc = true) ∧ Hid (∀ j (hj : j < s.data.toList.length), f ≤ j → j < k → s.data.toList[j] ≠ 10) ∧ Hid (rd [] s.data.toList = rd acc (s.data.toList.drop f)) ∧ Hid (QOwn w.heap.size wr v acc) ∧ Hid (Below w.heap.size w wr)) (fun _ _ _ i _ _ _ => s.size - (intOf i).toNat)
  case atStart => exact ⟨0, 0, [], Nat.le_refl _, Nat.zero_le _, rfl, rfl, rfl, by simp, hide rfl, hide (fun j _ _ h => absurd h (by omega)), HR0, HO0, HB0⟩
  case round =>
    obtain ⟨f, k, acc, hf, hk, rfl, rfl, rfl, hal, HOK, HNL, HRD, HOW, HB⟩ := hrel
    clear HO0 HB0 HR0
    by_cases hlt : k < s.size
    · have hb255 : (s[k].toNat : Int) ≤ 255 := byte_le _
      by_cases h10 : s[k].toNat = 10
      · have hq10 : ((s[k].toNat : Int) == 10) = true := by simp; omega
        have hat := nl_at (L := s.data.toList) (by omega) hf (unhide HNL) (UInt8.toNat_inj.1 h10)
        have CL := hide (fun wx => specLine_any (s.extract f k) wx (by rw [ByteArray.size_extract]; omega))
        rw [ext_mid] at CL
        have hnm := lineS_name ((s.data.toList.drop f).take (k - f))
        have hnm2 : (lineS ((s.data.toList.drop f).take (k - f))).1.name.length ≤ 1048576 := by simp at hnm; omega
        have HTK := hide (show took acc ((s.data.toList.drop f).take (k - f)) = ((lineS ((s.data.toList.drop f).take (k - f))).2 && fits acc (lineS ((s.data.toList.drop f).take (k - f))).1) from rfl)
        have hstep := @rd_step acc (s.data.toList.drop f) (by rw [hat]; simp; omega)
        have hbad := @rd_bad acc (s.data.toList.drop f) (by intro e; have := congrArg List.length e.1; simp at this; omega)
        rw [hat] at hstep hbad
        rw [List.drop_drop, show f + (k - f + 1) = k + 1 by omega] at hstep
        obtain ⟨ln, hln⟩ : ∃ ln, (s.data.toList.drop f).take (k - f) = ln := ⟨_, rfl⟩
        rw [hln] at CL hnm2 HTK hstep hbad
        obtain ⟨⟨⟨nm, pa, du, mo⟩, ok⟩, hq⟩ : ∃ q, lineS ln = q := ⟨_, rfl⟩
        rw [hq] at CL hnm2 HTK hstep
        simp only at CL hnm2 hstep
        have HST := hide hstep
        have HBD := hide hbad
        clear hln hq hat hnm hstep hbad h10
        go_wp2_with fail
        refine (unhide CL _).mono ?_
        rintro e w1 ⟨rfl, hb⟩
        have HO1 := hide ((unhide HOW).below hb)
        have HB1 := hide (below_on (unhide HB) hb)
        clear hb CL HOW HB
        have HX := hide (QBox.new w1 ⟨nm, pa, du, mo⟩)
        have HB2 := hide (below_al (unhide HB1) (qobj ⟨nm, pa, du, mo⟩))
        have HO2 := hide ((unhide HO1).below (below_al (Below.refl _ w1) (qobj ⟨nm, pa, du, mo⟩)))
        have hs2 : w.heap.size ≤ (w1.alloc (qobj ⟨nm, pa, du, mo⟩)).heap.size := (unhide HB2).size
        have k0 := (unhide HX).c0
        have k1 := (unhide HX).c1
        have k2 := (unhide HX).c2
        have k3 := (unhide HX).c3
        simp only at k0 k1 k2 k3
        have hown : (w1.alloc (qobj ⟨nm, pa, du, mo⟩)).ownsRow w.heap.size 39 4 _ acc.length (qcells acc) := unhide HO2
        clear HO1
        go_wp2_with (at_builtin; refine wpList_append_own _ rfl _ _ 24 rfl w.heap.size 39 i0 (.agg #[.string ByteArray.empty, .string ByteArray.empty, .int .i64 0, .int .i64 0]) 4 48 Tryz.underlying24 hi hz0 hz1 hz2 rfl (by decide) _ _ _ rfl (hown.alloc _) ⟨w1.heap.size + 1, 0, none⟩ 1 1 (qcell ⟨nm, pa, du, mo⟩) rfl rfl ?c1 ?c2 ?c3 ?c4 ?c5 ?_)
        case c1 =>
          intro j x hj
          match j, hj with
          | 0, hj => simp at hj; subst hj; simp [Addr.add]
          | 1, hj => simp at hj; subst hj; simp [Addr.add]
          | 2, hj => simp at hj; subst hj; simp [Addr.add]
          | 3, hj => simp at hj; subst hj; simp [Addr.add]
          | _ + 4, hj => simp at hj
        case c2 => intro x hx; simp at hx; rcases hx with rfl | rfl | rfl | rfl <;> rfl
        case c3 => unfold maxLen; omega
        case c4 => omega
        case c5 => simp at hs2 ⊢; omega
        intro v' w3 hown' hgrow _
        have R := qown_step (unhide HB2) (unhide HO2) hown' hgrow hs2
        have HR3 := hide R
        clear hown' hgrow hown k0 k1 k2 k3 R
        obtain ⟨ao, cp, hv, hrow, hcp⟩ := (unhide HR3).1.row
        have hle : (acc ++ [(⟨nm, pa, du, mo⟩ : Q)]).length = acc.length + 1 := by simp
        rw [hle] at hv hrow
        have HV := hide hv
        have HROW := hide hrow
        clear hrow hcp hle
        subst hv
        have hs3 : w.heap.size ≤ w3.heap.size := (unhide HR3).2.size
        cases ok with
        | false =>
          have hres : (rl, rn) = (([] : List Q), acc.length + 1) := by
            rw [← unhide HRR, unhide HRD]
            exact unhide HBD (by rw [unhide HTK]; simp)
          simp only [Prod.mk.injEq] at hres
          obtain ⟨rfl, rfl⟩ := hres
          have HF := hide (show QOwn w.heap.size (w3.alloc (.cells #[] 39)) (.slice (some ⟨w3.heap.size, 0, none⟩) 0 0) [] from (qown_empty w3).base hs3)
          have HBF := hide (below_al (unhide HR3).2 (.cells #[] 39))
          go_wp2
          go_ret2
          exact ⟨_, rfl, unhide HF, unhide HBF⟩
        | true =>
          have hnames : ∀ q ∈ acc ++ [(⟨nm, pa, du, mo⟩ : Q)], q.name.length ≤ 1048576 := fun q hq => by
            rcases List.mem_append.1 hq with hq | hq
            · exact okT_short (unhide HOK) q hq
            · rw [show q = ⟨nm, pa, du, mo⟩ by simpa using hq]; exact hnm2
          have CQ := hide (specQueuesOk_any ao (acc.length + 1) cp _ w3 (unhide HROW) (by omega) hnames)
          rw [ok_more (unhide HOK)] at CQ
          have hnok := hide (show fits acc ⟨nm, pa, du, mo⟩ = true → okT (acc ++ [(⟨nm, pa, du, mo⟩ : Q)]) = true from fun e => by rw [okT_snoc, unhide HOK, e]; rfl)
          have hl20 := hide (show fits acc ⟨nm, pa, du, mo⟩ = true → acc.length < 20 from fun e => by simp only [fits, Bool.and_eq_true, decide_eq_true_eq] at e; exact e.1.1.1.1)
          obtain ⟨ft, hft⟩ : ∃ ft, fits acc ⟨nm, pa, du, mo⟩ = ft := ⟨_, rfl⟩
          rw [hft] at CQ HTK hnok hl20
          clear hft hnames HOK
          go_wp2_with fail
          refine (unhide CQ).mono ?_
          rintro e w4 ⟨rfl, hb⟩
          have HO4 := hide ((unhide HR3).1.below hb)
          have HB4 := hide (below_on (unhide HR3).2 hb)
          have hs4 : w.heap.size ≤ w4.heap.size := (unhide HB4).size
          clear hb CQ HR3
          cases ft with
          | false =>
            have hres : (rl, rn) = (([] : List Q), acc.length + 1) := by
              rw [← unhide HRR, unhide HRD]
              exact unhide HBD (by rw [unhide HTK]; simp)
            simp only [Prod.mk.injEq] at hres
            obtain ⟨rfl, rfl⟩ := hres
            have HF := hide (show QOwn w.heap.size (w4.alloc (.cells #[] 39)) (.slice (some ⟨w4.heap.size, 0, none⟩) 0 0) [] from (qown_empty w4).base hs4)
            have HBF := hide (below_al (unhide HB4) (.cells #[] 39))
            go_wp2
            go_ret2
            exact ⟨_, rfl, unhide HF, unhide HBF⟩
          | true =>
            have HRD2 := hide (show rd [] s.data.toList = rd (acc ++ [⟨nm, pa, du, mo⟩]) (s.data.toList.drop (k + 1)) by rw [unhide HRD]; exact unhide HST (by rw [unhide HTK]; rfl))
            have hal2 : (acc ++ [(⟨nm, pa, du, mo⟩ : Q)]).length ≤ 20 := by have := unhide hl20 (by first | rfl | trivial); simp; omega
            go_wp2
            go_roundw
            case rel => exact ⟨k + 1, k + 1, acc ++ [⟨nm, pa, du, mo⟩], Nat.le_refl _, by omega, by go_num, by go_num, by simp, hal2, hide (unhide hnok (by first | rfl | trivial)), hide (fun j _ h1 h2 => absurd h2 (by omega)), HRD2, HO4, HB4⟩
            case measure => simp [intOf]; omega
      · have hq10 : ((s[k].toNat : Int) == 10) = false := by simp; omega
        have HNL2 := hide (show ∀ j (hj : j < s.data.toList.length), f ≤ j → j < k + 1 → s.data.toList[j] ≠ 10 from fun j hj h1 h2 e => by
          by_cases e2 : j = k
          · subst e2
            exact h10 (by rw [show s[j] = s.data.toList[j] from rfl, e]; rfl)
          · exact unhide HNL j hj h1 (by omega) e)
        clear h10 HNL
        go_wp2
        go_roundw
        case rel => exact ⟨f, k + 1, acc, by omega, by omega, rfl, by go_num, rfl, hal, HOK, HNL2, HRD, HOW, HB⟩
        case measure => simp [intOf]; omega
    · have hke : k = s.size := by omega
      subst hke
      obtain ⟨ao, cp, hv, hrow, hcp⟩ := (unhide HOW).row
      subst hv
      have HNL2 := hide (show ∀ j (hj : j < s.data.toList.length), f ≤ j → s.data.toList[j] ≠ 10 from fun j hj h1 => unhide HNL j hj h1 (by omega))
      have hs3 : w.heap.size ≤ wr.heap.size := (unhide HB).size
      have HF := hide (show QOwn w.heap.size (wr.alloc (.cells #[] 39)) (.slice (some ⟨wr.heap.size, 0, none⟩) 0 0) [] from (qown_empty wr).base hs3)
      have HBF := hide (below_al (unhide HB) (.cells #[] 39))
      clear hrow hcp HNL
      by_cases hfl : f < s.size
      · have hres : (rl, rn) = (([] : List Q), acc.length + 1) := by
          rw [← unhide HRR, unhide HRD]
          refine rd_bad (fun e => ?_) (fun e => ?_)
          · have := congrArg List.length e.1; simp at this; omega
          · rw [nl_no (unhide HNL2)] at e; omega
        simp only [Prod.mk.injEq] at hres
        obtain ⟨rfl, rfl⟩ := hres
        go_wp2
        go_ret2
        exact ⟨_, rfl, unhide HF, unhide HBF⟩
      · by_cases ha : acc.length = 0
        · have hac : acc = [] := List.eq_nil_of_length_eq_zero ha
          have hz : ((acc.length : Int) == 0) = true := by simp [ha]
          have hres : (rl, rn) = (([] : List Q), acc.length + 1) := by
            rw [← unhide HRR, unhide HRD]
            refine rd_bad (fun e => e.2 hac) (fun e => ?_)
            rw [nl_no (unhide HNL2)] at e; omega
          simp only [Prod.mk.injEq] at hres
          obtain ⟨rfl, rfl⟩ := hres
          clear ha hac
          go_wp2
          go_ret2
          exact ⟨_, rfl, unhide HF, unhide HBF⟩
        · have hz : ((acc.length : Int) == 0) = false := by simp; exact fun e => ha (by rw [e]; rfl)
          have hres : (rl, rn) = (acc, 0) := by
            rw [← unhide HRR, unhide HRD, List.drop_of_length_le (by omega)]
            exact rd_end (fun e => ha (by rw [e]; rfl))
          simp only [Prod.mk.injEq] at hres
          obtain ⟨rfl, rfl⟩ := hres
          clear ha
          go_wp2
          go_ret2
          exact ⟨_, rfl, unhide HOW, unhide HB⟩
end Go.Proofs.YtebaejokhpdbkaaGreatDoor
