/-
  Queues read from their text: what the program's readTree answers; a walk over the dump.
-/
import Derived.Test.YtebaejokhpdbkaaGreatDoorReadQI
import Derived.Test.YtebaejokhpdbkaaGreatDoorPackD
import Derived.Test.YtebaejokhpdbkaaGreatDoorQueuesOkI
namespace Go.Proofs.YtebaejokhpdbkaaGreatDoor
open Go.RowKit
set_option linter.unusedVariables false

/-- the error that tells the number of a line; none at 0 -/
def errOf (n : Nat) : Value := if n = 0 then .nilIface else .iface 57 (.agg #[.int .i64 (n : Int)])
def strLen : Value → Nat
  | .string s => s.size
  | _ => 0
theorem lineI_name (l : List UInt8) : (lineI l).1.name.length ≤ l.length := by
  unfold lineI
  split
  · rename_i a b c d e
    split
    · exact words_size a (by rw [e]; simp)
    · simp [zq]
  · simp [zq]
theorem cutNl_hit {l : List UInt8} (h : nlAt l < l.length) : cutNl l = (l.take (nlAt l), l.drop (nlAt l + 1), true) := if_pos h
theorem cutNl_miss {l : List UInt8} (h : ¬ nlAt l < l.length) : cutNl l = (l, [], false) := if_neg h
theorem fits_len {acc : List Q} {q : Q} (h : fits acc q = true) : acc.length < 20 := by
  simp only [fits, Bool.and_eq_true, decide_eq_true_eq] at h
  exact h.1.1.1.1

set_option maxRecDepth 100000 in
set_option maxHeartbeats 8000000 in
theorem readTree_any (l : List UInt8) (w : World) (hs : l.length ≤ 1048576) (hm : MaxLenAt w) :
    Calls Tryz.prog 26 #[.string (bs l)] w fun e w' => ∃ v, e = .returned (.tuple #[v, errOf (rd [] l).2]) ∧ QOwn w.heap.size w' v (rd [] l).1 ∧ Below w.heap.size w w' := by
  obtain ⟨i0, hi, hz0, hz1, hz2⟩ := info_parts Tryz.infoQ
  obtain ⟨⟨rl, rn⟩, hr⟩ : ∃ p, rd [] l = p := ⟨_, rfl⟩
  rw [hr]
  have HRR := hide hr
  have HM := hide hm
  clear hr hm
  simp only
  go_enter Tryz.func26, Tryz.ntmps26
  go_wp2
  go_loopw [4, 5, 6, 7, 8, 9, 10] (fun v a _ _ _ _ _ wr => ∃ (acc : List Q) (r : List UInt8), a = .string (bs r) ∧ acc.length ≤ 20 ∧ r.length ≤ 1048576 ∧ Hid (okT acc = true) ∧ Hid (rd [] l = rd acc r) ∧ Hid (QOwn w.heap.size wr v acc) ∧ Hid (Below w.heap.size w wr)) (fun _ a _ _ _ _ _ _ => strLen a)
  case atStart => exact ⟨[], l, rfl, by simp, hs, hide rfl, hide rfl, hide (qown_nil _ _), hide (Below.refl _ _)⟩
  case round =>
    obtain ⟨acc, r, rfl, hal, hrl, HOK, HRD, HOW, HB⟩ := hrel
    obtain ⟨ao, cp, hv, hrow, hcp⟩ := (unhide HOW).row
    subst hv
    have HROW := hide hrow
    have hbe := bs_empty r
    have hs0 : w.heap.size ≤ wr.heap.size := (unhide HB).size
    clear hrow
    by_cases hend : r = [] ∧ acc ≠ []
    · obtain ⟨hr0, ha⟩ := hend
      have hl0 : acc.length ≠ 0 := fun e => ha (List.eq_nil_of_length_eq_zero e)
      have hz : ((acc.length : Int) == 0) = false := by simp; exact ha
      have hres : (rl, rn) = (acc, 0) := by rw [← unhide HRR, unhide HRD, hr0]; exact rd_end ha
      simp only [Prod.mk.injEq] at hres
      obtain ⟨rfl, rfl⟩ := hres
      rw [decide_eq_true hr0] at hbe
      clear hr0 ha hl0
      go_wp2
      go_ret2
      exact ⟨_, rfl, unhide HOW, unhide HB⟩
    · have HBD := hide (@rd_bad acc r hend)
      have HST := hide (@rd_step acc r)
      have CC := hide (cutNl_any r wr hrl ((unhide HM).below (unhide HB)))
      have hgo : Hid (r = [] → acc = []) := hide (fun e => Classical.byContradiction fun h => hend ⟨e, h⟩)
      have CR := hide (fun (x : List UInt8) wx (hx : x.length ≤ 1048576) (hb : Below w.heap.size w wx) => readQueue_any x wx hx ((unhide HM).below hb))
      by_cases hhit : nlAt r < r.length
      · have hrne : r ≠ [] := fun e => by rw [e] at hhit; simp at hhit
        have hce := cutNl_hit hhit
        have hnxt : (r.drop (nlAt r + 1)).length < r.length := by simp; omega
        have TK := took_I (unhide HOK) (r.take (nlAt r))
        have hst := fun ht => unhide HST hhit ht
        have hbd := fun (ht : took acc (r.take (nlAt r)) = false) => unhide HBD (by rw [ht]; simp)
        have hlen1 : (r.take (nlAt r)).length ≤ 1048576 := by simp; omega
        have hname := lineI_name (r.take (nlAt r))
        rw [hce] at CC
        rw [decide_eq_false hrne] at hbe
        obtain ⟨ln, hln⟩ : ∃ ln, r.take (nlAt r) = ln := ⟨_, rfl⟩
        obtain ⟨bh, hbh⟩ : ∃ bh, r.drop (nlAt r + 1) = bh := ⟨_, rfl⟩
        rw [hln, hbh] at CC
        rw [hln] at TK hst hbd hlen1 hname
        rw [hbh] at hnxt hst
        simp only at CC
        have CR1 := hide (fun wx hb => unhide CR ln wx hlen1 hb)
        obtain ⟨⟨⟨nm, pa, du, mo⟩, ok⟩, hq⟩ : ∃ q, lineI ln = q := ⟨_, rfl⟩
        rw [hq] at CR1 TK hname
        simp only at CR1 TK hname
        have hname2 : nm.length ≤ 1048576 := by omega
        have HTK := hide TK
        have HST2 := hide hst
        have HBD2 := hide hbd
        have hbhl : bh.length ≤ 1048576 := by omega
        have hsz : (bs bh).size < (bs r).size := by rw [bs_size, bs_size]; exact hnxt
        clear hend hhit hce hln hbh hq TK hst hbd hname CR HBD HST hrne hlen1 hgo hnxt
        go_wp2_with fail
        refine (unhide CC).mono ?_
        rintro e w1 ⟨rfl, hb⟩
        have HO1 := hide ((unhide HOW).below hb)
        have HR1 := hide ((unhide HROW).below hb)
        have HB1 := hide (below_on (unhide HB) hb)
        clear hb CC HOW HROW HB
        go_wp2_with fail
        refine (unhide CR1 _ (unhide HB1)).mono ?_
        rintro e w2 ⟨rfl, hb⟩
        have HO2 := hide ((unhide HO1).below hb)
        have HR2 := hide ((unhide HR1).below hb)
        have HB2 := hide (below_on (unhide HB1) hb)
        clear hb CR1 HO1 HR1 HB1
        have HX := hide (QBox.new w2 ⟨nm, pa, du, mo⟩)
        have HB3 := hide (below_al (unhide HB2) (qobj ⟨nm, pa, du, mo⟩))
        have HO3 := hide ((unhide HO2).below (below_al (Below.refl _ w2) (qobj ⟨nm, pa, du, mo⟩)))
        have HR3 := hide ((unhide HR2).below (below_al (Below.refl _ w2) (qobj ⟨nm, pa, du, mo⟩)))
        have k0 := (unhide HX).c0
        have k1 := (unhide HX).c1
        have k2 := (unhide HX).c2
        have k3 := (unhide HX).c3
        simp only at k0 k1 k2 k3
        clear HO2 HR2 HB2
        cases ok with
        | false =>
          have hres : (rl, rn) = (([] : List Q), acc.length + 1) := by
            rw [← unhide HRR, unhide HRD]
            exact unhide HBD2 (by rw [← (unhide HTK).1]; simp)
          simp only [Prod.mk.injEq] at hres
          obtain ⟨rfl, rfl⟩ := hres
          go_wp2
          go_ret2
          exact ⟨.slice none 0 0, by rw [errOf, if_neg (by omega)]; simp, qown_nil _ _, unhide HB3⟩
        | true =>
          have CF := hide (fits_any ao acc.length cp acc ⟨nm, pa, du, mo⟩ _ (unhide HR3) (by omega) hname2 (okT_due (unhide HOK)))
          have hnok := hide (show fits acc ⟨nm, pa, du, mo⟩ = true → okT (acc ++ [(⟨nm, pa, du, mo⟩ : Q)]) = true from fun e => by rw [okT_snoc, unhide HOK, e]; rfl)
          have hl20 := hide (@fits_len acc ⟨nm, pa, du, mo⟩)
          obtain ⟨ft, hft⟩ : ∃ ft, fits acc ⟨nm, pa, du, mo⟩ = ft := ⟨_, rfl⟩
          rw [hft] at CF HTK hnok hl20
          clear hft
          go_wp2_with fail
          refine (unhide CF).mono ?_
          rintro e w3 ⟨rfl, hb⟩
          have HO4 := hide ((unhide HO3).below hb)
          have HB4 := hide (below_on (unhide HB3) hb)
          have HX4 := hide ((unhide HX).below hb)
          clear hb CF HO3 HR3 HB3 k0 k1 k2 k3 HX
          cases ft with
          | false =>
            have hres : (rl, rn) = (([] : List Q), acc.length + 1) := by
              rw [← unhide HRR, unhide HRD]
              exact unhide HBD2 (by rw [← (unhide HTK).1]; simp)
            simp only [Prod.mk.injEq] at hres
            obtain ⟨rfl, rfl⟩ := hres
            go_wp2
            go_ret2
            exact ⟨.slice none 0 0, by rw [errOf, if_neg (by omega)]; simp, qown_nil _ _, unhide HB4⟩
          | true =>
            have htk : took acc ln = true := by rw [← (unhide HTK).1]; rfl
            have hqe := (unhide HTK).2 htk
            have HRD2 := hide (show rd [] l = rd (acc ++ [⟨nm, pa, du, mo⟩]) bh by rw [unhide HRD, unhide HST2 htk, ← hqe])
            have hal2 : acc.length < 20 := unhide hl20 (by first | rfl | trivial)
            have hs4 : w.heap.size ≤ w3.heap.size := (unhide HB4).size
            have k0 := (unhide HX4).c0
            have k1 := (unhide HX4).c1
            have k2 := (unhide HX4).c2
            have k3 := (unhide HX4).c3
            simp only at k0 k1 k2 k3
            have hown : w3.ownsRow w.heap.size 39 4 (.slice ao acc.length cp) acc.length (qcells acc) := unhide HO4
            clear htk hqe HST2 HBD2 HTK
            go_wp2_with (at_builtin; refine wpList_append_own _ rfl _ _ 24 rfl w.heap.size 39 i0 (.agg #[.string ByteArray.empty, .string ByteArray.empty, .int .i64 0, .int .i64 0]) 4 48 Tryz.underlying24 hi hz0 hz1 hz2 rfl (by decide) _ _ _ rfl (hown.alloc _) ⟨w3.heap.size, 0, none⟩ 1 1 (qcell ⟨nm, pa, du, mo⟩) rfl rfl ?c1 ?c2 ?c3 ?c4 ?c5 ?_)
            case c1 =>
              intro j x hj
              match j, hj with
              | 0, hj => simp at hj; subst hj; simp [Addr.add]
              | 1, hj => simp at hj; subst hj; simp [Addr.add]
              | 2, hj => simp at hj; subst hj; simp [Addr.add]
              | 3, hj => simp at hj; subst hj; simp [Addr.add]
              | _ + 4, hj => simp at hj
            case c2 => intro x hx; simp at hx; rcases hx with rfl | rfl | rfl | rfl <;> rfl
            case c3 => unfold maxLen; omega
            case c4 => omega
            case c5 => simp; omega
            intro v' w5 hown' hgrow _
            have R := qown_step (unhide HB4) (unhide HO4) hown' hgrow hs4
            have HR5 := hide R
            clear hown' hgrow hown k0 k1 k2 k3 R
            go_wp2
            go_roundw
            case rel => exact ⟨acc ++ [⟨nm, pa, du, mo⟩], bh, rfl, by simp; omega, hbhl, hide (unhide hnok (by first | rfl | trivial)), HRD2, hide (unhide HR5).1, hide (unhide HR5).2⟩
            case measure => simpa [strLen] using hsz
      · have hce := cutNl_miss hhit
        rw [hce] at CC
        simp only at CC
        have CR1 := hide (fun wx hb => unhide CR r wx hrl hb)
        obtain ⟨⟨⟨nm, pa, du, mo⟩, ok⟩, hq⟩ : ∃ q, lineI r = q := ⟨_, rfl⟩
        rw [hq] at CR1
        simp only at CR1
        have hres : (rl, rn) = (([] : List Q), acc.length + 1) := by
          rw [← unhide HRR, unhide HRD]
          exact unhide HBD (fun e => hhit e.1)
        simp only [Prod.mk.injEq] at hres
        obtain ⟨rfl, rfl⟩ := hres
        clear hend hhit hce hq HBD HST CR
        by_cases hr0 : r = []
        · have ha := unhide hgo hr0
          have hz : ((acc.length : Int) == 0) = true := by rw [ha]; rfl
          rw [decide_eq_true hr0] at hbe
          clear hr0 ha hgo
          go_wp2_with fail
          refine (unhide CC).mono ?_
          rintro e w1 ⟨rfl, hb⟩
          have HB1 := hide (below_on (unhide HB) hb)
          clear hb CC
          go_wp2_with fail
          refine (unhide CR1 _ (unhide HB1)).mono ?_
          rintro e w2 ⟨rfl, hb⟩
          have HB3 := hide (below_al (below_on (unhide HB1) hb) (qobj ⟨nm, pa, du, mo⟩))
          clear hb
          go_wp2
          go_ret2
          exact ⟨.slice none 0 0, by rw [errOf, if_neg (by omega)]; simp, qown_nil _ _, unhide HB3⟩
        · rw [decide_eq_false hr0] at hbe
          clear hr0 hgo
          go_wp2_with fail
          refine (unhide CC).mono ?_
          rintro e w1 ⟨rfl, hb⟩
          have HB1 := hide (below_on (unhide HB) hb)
          clear hb CC
          go_wp2_with fail
          refine (unhide CR1 _ (unhide HB1)).mono ?_
          rintro e w2 ⟨rfl, hb⟩
          have HB3 := hide (below_al (below_on (unhide HB1) hb) (qobj ⟨nm, pa, du, mo⟩))
          clear hb
          go_wp2
          go_ret2
          exact ⟨.slice none 0 0, by rw [errOf, if_neg (by omega)]; simp, qown_nil _ _, unhide HB3⟩
end Go.Proofs.YtebaejokhpdbkaaGreatDoor
