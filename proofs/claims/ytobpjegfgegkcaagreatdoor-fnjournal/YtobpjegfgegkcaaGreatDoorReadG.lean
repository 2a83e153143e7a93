/-
  A whole log, by the model: Read; a walk over the dump.
-/
import Derived.Test.YtobpjegfgegkcaaGreatDoorReadF
import Derived.Deep.QuietTactic
import Derived.BigQuiet
import Derived.Deep.CutRange
namespace Go.Proofs.YtobpjegfgegkcaaGreatDoor
open Go.RowKit
set_option linter.unusedVariables false
set_option linter.unusedSimpArgs false
def BelS (w wx : World) : Prop := Below w.heap.size w wx
theorem word_sv (s : ByteArray) (i : Nat) (h : i + 4 ≤ s.size) (c : Nat) (hc : c < 4294967296) : (s.extract i (i + 4) = bs (word c)) ↔ c = svN s i 4 := by
  have hg : ∀ k, k < 4 → s.data.toList[i + k]? = some s.data.toList[i + k]! := by
    intro k hk
    rw [List.getElem!_eq_getElem?_getD, List.getElem?_eq_getElem (by rw [len_eq]; omega)]
    rfl
  obtain ⟨b0, h0⟩ : ∃ b, s.data.toList[i]? = some b := ⟨_, by simpa using hg 0 (by omega)⟩
  obtain ⟨b1, h1⟩ : ∃ b, s.data.toList[i + 1]? = some b := ⟨_, hg 1 (by omega)⟩
  obtain ⟨b2, h2⟩ : ∃ b, s.data.toList[i + 2]? = some b := ⟨_, hg 2 (by omega)⟩
  obtain ⟨b3, h3⟩ : ∃ b, s.data.toList[i + 3]? = some b := ⟨_, hg 3 (by omega)⟩
  have hx : s.extract i (i + 4) = bs [b0, b1, b2, b3] := by
    have h5 := extract_pre s i 4
    rw [h5]
    congr 1
    unfold pre
    apply List.ext_getElem?
    intro k
    by_cases hk : k < 4
    · rw [List.getElem?_take_of_lt hk, List.getElem?_drop]
      match k, hk with
      | 0, _ => simpa using h0
      | 1, _ => simpa using h1
      | 2, _ => simpa using h2
      | 3, _ => simpa using h3
    · rw [List.getElem?_eq_none (by simp; omega), List.getElem?_eq_none (by simp; omega)]
  have hv : svN s i 4 = ((b0.toNat * 256 + b1.toNat) * 256 + b2.toNat) * 256 + b3.toNat := by
    simp only [svN, Nat.add_zero, h0, h1, h2, h3, Option.getD_some]
    omega
  have l0 := b0.toNat_lt
  have l1 := b1.toNat_lt
  have l2 := b2.toNat_lt
  have l3 := b3.toNat_lt
  have n0 : b0 = UInt8.ofNat b0.toNat := by simp
  have n1 : b1 = UInt8.ofNat b1.toNat := by simp
  have n2 : b2 = UInt8.ofNat b2.toNat := by simp
  have n3 : b3 = UInt8.ofNat b3.toNat := by simp
  rw [hx, hv]
  constructor
  · intro h
    have hl : [b0, b1, b2, b3] = word c := by
      have := congrArg (fun x : ByteArray => x.data.toList) h
      simpa [bs] using this
    simp only [word, List.cons.injEq, and_true] at hl
    obtain ⟨e0, e1, e2, e3⟩ := hl
    have t0 := congrArg UInt8.toNat e0
    have t1 := congrArg UInt8.toNat e1
    have t2 := congrArg UInt8.toNat e2
    have t3 := congrArg UInt8.toNat e3
    rw [UInt8.toNat_ofNat'] at t0 t1 t2 t3
    omega
  · intro h
    subst h
    congr 1
    simp only [word, List.cons.injEq, and_true]
    refine ⟨?_, ?_, ?_, ?_⟩
    · rw [show (((b0.toNat * 256 + b1.toNat) * 256 + b2.toNat) * 256 + b3.toNat) / 16777216 = b0.toNat by omega]; exact n0
    · rw [show (((b0.toNat * 256 + b1.toNat) * 256 + b2.toNat) * 256 + b3.toNat) / 65536 % 256 = b1.toNat by omega]; exact n1
    · rw [show (((b0.toNat * 256 + b1.toNat) * 256 + b2.toNat) * 256 + b3.toNat) / 256 % 256 = b2.toNat by omega]; exact n2
    · rw [show (((b0.toNat * 256 + b1.toNat) * 256 + b2.toNat) * 256 + b3.toNat) % 256 = b3.toNat by omega]; exact n3
theorem entry_short {s : ByteArray} {i : Nat} (h : s.size ≤ i + 4) : readEntry s i = none := by
  unfold readEntry
  by_cases h4 : s.size < i + 4
  · rw [if_pos h4]
  · rw [if_neg h4, if_pos]
    have hd : s.data.toList.drop (((i + 4 : Nat) : Int)).toNat = [] := List.drop_of_length_le (by rw [len_eq]; omega)
    have hn : getNum s.data.toList ((i + 4 : Nat) : Int) = (0, -1) := by
      unfold getNum
      rw [if_neg (by omega), hd]
      rfl
    unfold getText
    rw [hn]
    simp
theorem entry_of {s : ByteArray} {i : Nat} (h : i + 4 ≤ s.size) : readEntry s i = if (getText s.data.toList ((i + 4 : Nat) : Int)).2 < 0 then none
    else match gotRec (getText s.data.toList ((i + 4 : Nat) : Int)).1 with
    | none => none
    | some r => if crc (getText s.data.toList ((i + 4 : Nat) : Int)).1 = svN s i 4 then some (r, (getText s.data.toList ((i + 4 : Nat) : Int)).2) else none := by
  conv => lhs; unfold readEntry
  rw [if_neg (by omega)]
  rfl

set_option maxRecDepth 100000 in
set_option maxHeartbeats 4000000 in
theorem specRead_any (s : ByteArray) (w : World) (hs : s.size ≤ 1048576) :
    Calls Tryz.prog 7 #[.string s] w fun e w' => ∃ v, e = .returned (.tuple #[v, .int .i64 (readV s).2]) ∧ JOwn w.heap.size w' v (readV s).1 ∧ Below w.heap.size w w' := by
  obtain ⟨i0, hi, hz0, hz1, hz2⟩ := info_parts Tryz.infoRec
  have hem := jown_empty w
  have HO0 := hide (show JOwn w.heap.size (w.alloc (.cells #[] 25)) (.slice (some ⟨w.heap.size, 0, none⟩) 0 0) [] from hem)
  have HB0 := hide (below_al (Below.refl _ w) (.cells #[] 25))
  clear hem
  by_cases hbig : 60000 < s.size
  · have hv : readV s = ([], 0) := by unfold readV; rw [if_pos hbig]
    rw [hv]
    clear hv
    go_enter Tryz.func7, Tryz.ntmps7
    go_wp2
    go_loopw [4, 5] (fun v a wr => v = .slice (some ⟨w.heap.size, 0, none⟩) 0 0 ∧ a = .int .i64 0 ∧ wr = w.alloc (.cells #[] 25)) (fun _ _ _ => 0)
    case atStart => exact ⟨rfl, rfl, rfl⟩
    case round =>
      obtain ⟨rfl, rfl, rfl⟩ := hrel
      have hd : decide ((s.size : Int) ≤ 60000) = false := by simp; omega
      go_wp2
      go_ret2
      exact ⟨_, rfl, unhide HO0, unhide HB0⟩
  have hv : readV s = readF s (s.size + 1) 0 [] := by unfold readV; rw [if_neg hbig]
  rw [hv]
  clear hv
  obtain ⟨X, hX⟩ : ∃ X, readF s (s.size + 1) 0 [] = X := ⟨_, rfl⟩
  rw [hX]
  have HX := hide hX
  clear hX
  go_enter Tryz.func7, Tryz.ntmps7
  go_wp2
  go_loopw [4, 5] (fun v a wr => ∃ (i n : Nat) (acc : List Rc), a = .int .i64 (i : Int) ∧ i ≤ s.size ∧ s.size - i < n ∧ acc.length ≤ i ∧ Hid (readF s n i acc = X) ∧ Hid (JOwn w.heap.size wr v acc) ∧ Hid (Below w.heap.size w wr)) (fun _ a _ => s.size - (intOf a).toNat)
  case atStart => exact ⟨0, s.size + 1, [], rfl, by omega, by omega, by simp, HX, HO0, HB0⟩
  case round =>
    obtain ⟨i, n, acc, rfl, hi1, hn, hac, HF, HO, HB⟩ := hrel
    obtain ⟨m, rfl⟩ : ∃ m, n = m + 1 := ⟨n - 1, by omega⟩
    have hle : (s.size : Int) ≤ 60000 := by omega
    by_cases h4 : s.size ≤ i + 4
    · have HF2 := hide (show (acc, (i : Int)) = X by rw [← unhide HF, readF_none (entry_short h4)])
      have hgt : ¬ (4 : Int) < (s.size : Int) - (i : Int) := by omega
      go_wp2
      go_ret2
      rw [← unhide HF2]
      exact ⟨_, rfl, unhide HO, unhide HB⟩
    · have hgt : (4 : Int) < (s.size : Int) - (i : Int) := by omega
      have hex := entry_of (s := s) (i := i) (by omega)
      have hws := fun c hc => word_sv s i (by omega) c hc
      have CT := hide (fun wx => specGetText_any s ((i + 4 : Nat) : Int) wx hs (by omega) (by omega))
      have htl := getText_len2 s.data.toList ((i + 4 : Nat) : Int)
      obtain ⟨⟨t, j⟩, htj⟩ : ∃ x, getText s.data.toList ((i + 4 : Nat) : Int) = x := ⟨_, rfl⟩
      rw [htj] at CT htl hex
      simp only at CT htl hex
      clear htj
      have hi4 : ((i + 4 : Nat) : Int) = (i : Int) + 4 := by omega
      rw [hi4] at CT
      have CG := hide (fun wx => by have := specGetRec_any (bs t) wx (by rw [bs_size]; omega); rw [show gotRec (bs t).data.toList = gotRec t from rfl] at this; exact this)
      have CC := hide (fun wx => by have := specCheckSum_any (bs t) wx (by rw [bs_size]; omega); rw [show crc (bs t).data.toList = crc t from rfl] at this; exact this)
      have hcl : crc t < 4294967296 := xor_lt32 (crcTo_lt _) (by decide)
      have CW := hide (fun wx => l08Word_any (crc t) wx hcl)
      have hws1 := hws (crc t) hcl
      clear hws
      obtain ⟨c, hc⟩ : ∃ c, crc t = c := ⟨_, rfl⟩
      rw [hc] at CC hcl CW hex hws1
      clear hc
      obtain ⟨o, ho⟩ : ∃ o, gotRec t = o := ⟨_, rfl⟩
      rw [ho] at CG hex
      clear ho
      by_cases hj : j < 0
      · have HF2 := hide (show (acc, (i : Int)) = X by rw [← unhide HF, readF_none (by rw [hex, if_pos hj])])
        have HV : ∃ (r : Rc) (b : Bool), recAns o = .tuple #[rcv r, .bool b] := by
          cases o with
          | none => exact ⟨⟨0, 0, []⟩, false, rfl⟩
          | some r => exact ⟨r, true, rfl⟩
        obtain ⟨⟨rk, ra, rq⟩, b, hrb⟩ := HV
        rw [hrb] at CG
        have hjd : decide (j < 0) = true := by simp; exact hj
        clear hex hws1 hrb CC CW
        go_wp2_with fail
        refine (unhide CT _).mono ?_
        rintro e w1 ⟨rfl, hb⟩
        have HO1 := hide (jown_below (unhide HO) hb)
        have HB1 := hide (below_on (unhide HB) hb)
        clear hb CT
        go_wp2_with fail
        refine (unhide CG _).mono ?_
        rintro e w2 ⟨rfl, hb⟩
        have HO2 := hide (jown_below (jown_below (unhide HO1) hb) (below_al (Below.refl _ _) (.cells #[.int .i64 rk, .int .i64 ra, .string (bs rq)] 25)))
        have HB2 := hide (below_al (below_on (unhide HB1) hb) (.cells #[.int .i64 rk, .int .i64 ra, .string (bs rq)] 25))
        have V2 := hide (blk_new w2 #[.int .i64 rk, .int .i64 ra, .string (bs rq)] 25)
        clear hb CG HO1 HB1 HO HB
        go_wp2_with fail
        go_quiet (fail)
        go_wp2
        go_ret2
        rw [← unhide HF2]
        exact ⟨_, rfl, jown_below (unhide HO2) (below_drewN (Below.refl _ _) _), below_drewN (unhide HB2) _⟩
      · rw [if_neg hj] at hex
        have hjd : decide (j < 0) = false := by simp; omega
        cases o with
        | none =>
          have HF2 := hide (show (acc, (i : Int)) = X by rw [← unhide HF, readF_none hex])
          simp only [recAns] at CG
          clear hex hws1 CC CW
          go_wp2_with fail
          refine (unhide CT _).mono ?_
          rintro e w1 ⟨rfl, hb⟩
          have HO1 := hide (jown_below (unhide HO) hb)
          have HB1 := hide (below_on (unhide HB) hb)
          clear hb CT
          go_wp2_with fail
          refine (unhide CG _).mono ?_
          rintro e w2 ⟨rfl, hb⟩
          have HO2 := hide (jown_below (jown_below (unhide HO1) hb) (below_al (Below.refl _ _) (.cells #[.int .i64 0, .int .i64 0, .string (bs [])] 25)))
          have HB2 := hide (below_al (below_on (unhide HB1) hb) (.cells #[.int .i64 0, .int .i64 0, .string (bs [])] 25))
          have V2 := hide (blk_new w2 #[.int .i64 0, .int .i64 0, .string (bs [])] 25)
          clear hb CG HO1 HB1 HO HB
          go_wp2_with fail
          go_quiet (fail)
          go_wp2
          go_ret2
          rw [← unhide HF2]
          exact ⟨_, rfl, jown_below (unhide HO2) (below_drewN (Below.refl _ _) _), below_drewN (unhide HB2) _⟩
        | some r =>
          obtain ⟨rk, ra, rq⟩ := r
          simp only [recAns] at CG
          simp only at hex
          have b1 : (0 : Int) ≤ (i : Int) := by omega
          have b2 : (i : Int) + 4 ≤ (s.size : Int) := by omega
          have b3 : (i : Int) ≤ (i : Int) + 4 := by omega
          have hw4 : IntKind.i64.wrap ((i : Int) + 4) = (i : Int) + 4 := by rw [IntKind.wrap_i64]; omega
          have ht4 : ((i : Int) + 4).toNat = i + 4 := by omega
          have b4 : (0 : Int) ≤ (i : Int) + 4 := by omega
          by_cases hcx : c = svN s i 4
          case neg =>
            rw [if_neg hcx] at hex
            have HF2 := hide (show (acc, (i : Int)) = X by rw [← unhide HF, readF_none hex])
            have hcmp : ((s.extract i (i + 4)).toList == (bs (word c)).toList) = false := by
              rw [beq_eq_false_iff_ne, ne_eq, ByteArray.toList_eq, ByteArray.toList_eq]
              intro h
              apply hcx
              apply hws1.1
              apply ByteArray.ext
              exact Array.ext' h
            clear hex hws1 hcx
            go_wp2_with fail
            refine (unhide CT _).mono ?_
            rintro e w1 ⟨rfl, hb⟩
            have HO1 := hide (jown_below (unhide HO) hb)
            have HB1 := hide (below_on (unhide HB) hb)
            clear hb CT
            go_wp2_with fail
            refine (unhide CG _).mono ?_
            rintro e w2 ⟨rfl, hb⟩
            have HO2 := hide (jown_below (jown_below (unhide HO1) hb) (below_al (Below.refl _ _) (.cells #[.int .i64 rk, .int .i64 ra, .string (bs rq)] 25)))
            have HB2 := hide (below_al (below_on (unhide HB1) hb) (.cells #[.int .i64 rk, .int .i64 ra, .string (bs rq)] 25))
            have V2 := hide (blk_new w2 #[.int .i64 rk, .int .i64 ra, .string (bs rq)] 25)
            clear hb CG HO1 HB1 HO HB
            go_wp2_with fail
            obtain ⟨W, hW⟩ : ∃ W, w2.alloc (.cells #[.int .i64 rk, .int .i64 ra, .string (bs rq)] 25) = W := ⟨_, rfl⟩
            rw [hW] at HO2 HB2 V2 ⊢
            have A0 := hide (show BelS W W from Below.refl _ _)
            go_region_held3 (fun wx => BelS W wx)
              (first | (with_reducible assumption) | exact Below.drew (unhide A0) | exact below_on (by assumption) (by assumption))
              (first
              | (go_at_call 27; refine (unhide CC _).mono ?_; rintro e wt ⟨rfl, rfl⟩)
              | (go_at_call 26; refine (unhide CW _).mono ?_; rintro e wt ⟨rfl, hb⟩; have SA : BelS W wt := below_on (w := W) (by assumption) hb))
            have HBS := hide (show Below W.heap.size W wt from SA)
            clear SA A0
            go_wp2
            go_ret2
            rw [← unhide HF2]
            exact ⟨_, rfl, jown_below (unhide HO2) (unhide HBS), below_on (unhide HB2) (unhide HBS)⟩
          · rw [if_pos hcx] at hex
            obtain ⟨hj1, hj2⟩ := entry_on hex
            have HF2 := hide (show readF s m j.toNat (acc ++ [⟨rk, ra, rq⟩]) = X by rw [← unhide HF, readF_some (by omega) hex])
            have hcmp : ((s.extract i (i + 4)).toList == (bs (word c)).toList) = true := by
              rw [beq_iff_eq, hws1.2 hcx]
            have hjn : (j.toNat : Int) = j := by omega
            clear hex hws1 hcx
            go_wp2_with fail
            refine (unhide CT _).mono ?_
            rintro e w1 ⟨rfl, hb⟩
            have HO1 := hide (jown_below (unhide HO) hb)
            have HB1 := hide (below_on (unhide HB) hb)
            clear hb CT
            go_wp2_with fail
            refine (unhide CG _).mono ?_
            rintro e w2 ⟨rfl, hb⟩
            have HO2 := hide (jown_below (jown_below (unhide HO1) hb) (below_al (Below.refl _ _) (.cells #[.int .i64 rk, .int .i64 ra, .string (bs rq)] 25)))
            have HB2 := hide (below_al (below_on (unhide HB1) hb) (.cells #[.int .i64 rk, .int .i64 ra, .string (bs rq)] 25))
            have V2 := hide (blk_new w2 #[.int .i64 rk, .int .i64 ra, .string (bs rq)] 25)
            clear hb CG HO1 HB1 HO HB
            go_wp2_with fail
            obtain ⟨W, hW⟩ : ∃ W, w2.alloc (.cells #[.int .i64 rk, .int .i64 ra, .string (bs rq)] 25) = W := ⟨_, rfl⟩
            rw [hW] at HO2 HB2 V2 ⊢
            have A0 := hide (show BelS W W from Below.refl _ _)
            go_region_held3 (fun wx => BelS W wx)
              (first | (with_reducible assumption) | exact Below.drew (unhide A0) | exact below_on (by assumption) (by assumption))
              (first
              | (go_at_call 27; refine (unhide CC _).mono ?_; rintro e wt ⟨rfl, rfl⟩)
              | (go_at_call 26; refine (unhide CW _).mono ?_; rintro e wt ⟨rfl, hb⟩; have SA : BelS W wt := below_on (w := W) (by assumption) hb))
            have HBS := hide (show Below W.heap.size W wt from SA)
            have HO3 := hide (jown_below (unhide HO2) (unhide HBS))
            have HB3 := hide (below_on (unhide HB2) (unhide HBS))
            have V3 := hide ((unhide V2).below (unhide HBS))
            have k0 := (unhide V3).at 0
            have k1 := (unhide V3).at 1
            have k2 := (unhide V3).at 2
            simp at k0 k1 k2
            have hsz3 : w.heap.size ≤ wt.heap.size := (unhide HB3).size
            clear SA A0 HO2 HB2 V2
            have hown : wt.ownsRow w.heap.size 25 3 _ acc.length (jcells acc) := unhide HO3
            go_wp2_with (at_builtin; refine wpList_append_own _ rfl _ _ 28 rfl w.heap.size 25 i0 (.agg #[.int .i64 0, .int .i64 0, .string ByteArray.empty]) 3 32 Tryz.underlying28 hi hz0 hz1 hz2 rfl (by decide) _ _ _ rfl (hown.alloc _) ⟨wt.heap.size, 0, none⟩ 1 1 (jcell ⟨rk, ra, rq⟩) rfl rfl ?c1 ?c2 ?c3 ?c4 ?c5 ?_)
            case c1 =>
              intro j x hj
              match j, hj with
              | 0, hj => simp at hj; subst hj; simp [Addr.add]
              | 1, hj => simp at hj; subst hj; simp [Addr.add]
              | 2, hj => simp at hj; subst hj; simp [Addr.add]
              | _ + 3, hj => simp at hj
            case c2 => intro x hx; simp at hx; rcases hx with rfl | rfl | rfl <;> rfl
            case c3 => unfold maxLen; omega
            case c4 => omega
            case c5 => simp at hsz3 ⊢; omega
            intro v' w3 hown' hgrow _
            have R := jown_step (unhide HB3) (unhide HO3) hown' hgrow hsz3
            have HO4 := hide R.1
            have HB4 := hide R.2
            clear hown' hgrow hown R
            go_wp2
            go_roundw
            case rel => exact ⟨j.toNat, m, acc ++ [⟨rk, ra, rq⟩], by rw [hjn], by omega, by omega, by simp; omega, HF2, HO4, HB4⟩
            case measure => simp [intOf]; omega
end Go.Proofs.YtobpjegfgegkcaaGreatDoor
