/-
  A record of bytes: the model's answer and the program's are one; plain words.
-/
import Derived.Test.YtobpjegfgegkcaaGreatDoorPackC
import Derived.Test.YtobpjegfgegkcaaGreatDoorPRec
import Derived.Test.YtobpjegfgegkcaaGreatDoorNumsM
namespace Go.Proofs.YtobpjegfgegkcaaGreatDoor
open Go.RowKit
set_option linter.unusedVariables false
set_option linter.unusedSimpArgs false
/-- what the model's GetRec answers -/
def specGot (l : List UInt8) : Option Rc :=
  match l with
  | [] => none
  | b :: _ =>
    if (getText l (getNum l 1).2).2 < 0 ∨ putRec ⟨b.toNat, (getNum l 1).1, (getText l (getNum l 1).2).1⟩ ≠ l then none
    else some ⟨b.toNat, (getNum l 1).1, (getText l (getNum l 1).2).1⟩
theorem getNum_split (l : List UInt8) (i : Int) (h : ¬ (getNum l i).2 < 0) : 0 ≤ i ∧ 0 ≤ (getNum l i).1 ∧ (getNum l i).1 ≤ 4000000000 ∧ l.drop i.toNat = putNum (getNum l i).1 ++ l.drop (getNum l i).2.toNat := by
  unfold getNum at h ⊢
  by_cases hi : i < 0
  · simp [hi] at h
  · simp only [hi, if_false] at h ⊢
    cases hs : stop 5 (l.drop i.toNat) with
    | none => simp [hs] at h
    | some j =>
      simp only [hs] at h ⊢
      by_cases hp : putNum ((dv ((l.drop i.toNat).take (j + 1)) : Nat) : Int) = (l.drop i.toNat).take (j + 1)
      · rw [if_pos hp] at h ⊢
        have hj := stop_lt 5 _ j hs
        have hle : (dv ((l.drop i.toNat).take (j + 1)) : Int) ≤ 4000000000 := by
          apply Int.not_lt.1
          intro hlt
          have : putNum ((dv ((l.drop i.toNat).take (j + 1)) : Nat) : Int) = [] := by unfold putNum; rw [if_neg (by omega)]
          rw [this] at hp
          have h2 := congrArg List.length hp
          simp at h2 hj
          omega
        refine ⟨by omega, by simp, hle, ?_⟩
        rw [hp]
        simp only
        have e : (i + (j : Int) + 1).toNat = i.toNat + (j + 1) := by omega
        rw [e, ← List.drop_drop, List.take_append_drop]
      · rw [if_neg hp] at h
        simp at h
theorem getText_split (l : List UInt8) (i : Int) (h : ¬ (getText l i).2 < 0) : ¬ (getNum l i).2 < 0 ∧ (getText l i).1.length ≤ 2000 ∧ l.drop i.toNat = putText (getText l i).1 ++ l.drop (getText l i).2.toNat ∧ (getText l i).2 ≤ l.length := by
  unfold getText at h ⊢
  simp only at h ⊢
  by_cases hc : (getNum l i).2 < 0 ∨ 2000 < (getNum l i).1 ∨ (l.length : Int) - (getNum l i).2 < (getNum l i).1
  · rw [if_pos hc] at h; simp at h
  · rw [if_neg hc]
    have h1 : ¬ (getNum l i).2 < 0 := fun e => hc (.inl e)
    have h2 : ¬ 2000 < (getNum l i).1 := fun e => hc (.inr (.inl e))
    have h3 : ¬ (l.length : Int) - (getNum l i).2 < (getNum l i).1 := fun e => hc (.inr (.inr e))
    obtain ⟨h0, hn, hm, hsp⟩ := getNum_split l i h1
    clear hc h
    obtain ⟨⟨n, k⟩, hg⟩ : ∃ x, getNum l i = x := ⟨_, rfl⟩
    rw [hg] at h1 h2 h3 hn hm hsp ⊢
    simp only at h1 h2 h3 hn hm hsp ⊢
    have hlen : ((l.drop k.toNat).take n.toNat).length = n.toNat := by simp; omega
    refine ⟨h1, by omega, ?_, by omega⟩
    rw [hsp]
    unfold putText
    rw [hlen, if_pos (by omega)]
    have e1 : putNum n = put n.toNat := by unfold putNum; rw [if_pos (by omega)]
    have e2 : (k + n).toNat = k.toNat + n.toNat := by omega
    rw [e1, e2, ← List.drop_drop, List.append_assoc, List.take_append_drop]
theorem got_same (l : List UInt8) : specGot l = gotRec l := by
  unfold gotRec
  match l with
  | [] => rfl
  | b :: t =>
    unfold specGot readRec
    simp only
    by_cases h1 : (getNum (b :: t) 1).2 < 0
    · have hg : getText (b :: t) (getNum (b :: t) 1).2 = ([], -1) := by
        unfold getText
        simp only
        rw [getNum_neg h1]
        simp
      rw [hg, if_pos h1]
      simp [gotOf]
    · rw [if_neg h1]
      by_cases h2 : (getText (b :: t) (getNum (b :: t) 1).2).2 < 0
      · rw [if_pos (.inl h2), if_pos h2]; rfl
      · rw [if_neg h2]
        obtain ⟨_, _, _, hs1⟩ := getNum_split _ _ h1
        obtain ⟨_, _, hs2, hle⟩ := getText_split _ _ h2
        obtain ⟨⟨n, k⟩, hg⟩ : ∃ x, getNum (b :: t) 1 = x := ⟨_, rfl⟩
        rw [hg] at h1 h2 hs1 hs2 hle ⊢
        simp only at h1 h2 hs1 hs2 hle ⊢
        obtain ⟨⟨q, m⟩, hg2⟩ : ∃ x, getText (b :: t) k = x := ⟨_, rfl⟩
        rw [hg2] at h2 hs2 hle ⊢
        simp only at h2 hs2 hle ⊢
        cases ho : recOk ⟨b.toNat, n, q⟩ with
        | false =>
          have hp : putRec ⟨b.toNat, n, q⟩ = [] := by simp [putRec, ho]
          rw [if_pos (.inr (by rw [hp]; simp)), if_pos rfl]; rfl
        | true =>
          have hp : putRec ⟨b.toNat, n, q⟩ = b :: (putNum n ++ putText q) := by
            simp [putRec, ho]
          have hl : b :: t = putRec ⟨b.toNat, n, q⟩ ++ (b :: t).drop m.toNat := by
            rw [hp]
            have : t = putNum n ++ (putText q ++ (b :: t).drop m.toNat) := by rw [← hs2, ← hs1]; rfl
            rw [List.cons_append, List.append_assoc, ← this]
          rw [if_neg (show ¬ (true = false) by simp)]
          simp only [gotOf]
          by_cases hm : ((b :: t).length : Int) ≤ m
          · rw [if_pos hm, if_neg]
            rintro (h | h)
            · exact h2 h
            · apply h
              have hd : (b :: t).drop m.toNat = [] := List.drop_of_length_le (by omega)
              rw [hd, List.append_nil] at hl
              exact hl.symm
          · rw [if_neg hm, if_pos]
            right
            intro h
            rw [h] at hl
            have := congrArg List.length hl
            rw [List.length_append, List.length_drop] at this
            omega

set_option maxRecDepth 100000 in
set_option maxHeartbeats 4000000 in
theorem specGetRec_any (s : ByteArray) (w : World) (hs : s.size ≤ 1048576) :
    Calls Tryz.prog 11 #[.string s] w fun e w' => e = .returned (recAns (gotRec s.data.toList)) ∧ Below w.heap.size w w' := by
  rw [← got_same]
  have V0 := hide (blk_new w #[.int .i64 0, .int .i64 0, .string ⟨#[]⟩] 25)
  have HB0 := hide (below_al (Below.refl _ w) (.cells #[.int .i64 0, .int .i64 0, .string ⟨#[]⟩] 25))
  by_cases h0 : s.size = 0
  · have he : s.data.toList = [] := List.eq_nil_of_length_eq_zero (by rw [len_eq]; exact h0)
    have hem := str_empty h0
    rw [he]
    simp only [specGot]
    clear he h0
    go_enter Tryz.func11, Tryz.ntmps11
    go_wp2
    refine bodyPost_ret (v := recAns none) (by simp [results, Tryz.results11, go_sem, recAns, bs_nil]) rfl ⟨rfl, ?_⟩
    repeat (first | exact unhide HB0 | refine below_al ?_ _ | refine Below.drew ?_ | refine below_sc ?_ _ _ _ (by omega))
  have hem := str_full h0
  have hcons : ∃ t, s.data.toList = s[0] :: t := ⟨s.data.toList.tail, by
    have hlen := len_eq s
    match hl : s.data.toList with
    | [] => rw [hl] at hlen; simp at hlen; omega
    | a :: t =>
      simp only [List.tail_cons, List.cons.injEq, and_true]
      have : s.data.toList[0]? = some a := by rw [hl]; rfl
      have h2 : s.data.toList[0]? = some s[0] := by
        rw [List.getElem?_eq_getElem (by omega)]; rfl
      rw [h2] at this
      simpa using this.symm⟩
  have hby := byte_le s[0]
  have HX : specGot s.data.toList = if (getText s.data.toList (getNum s.data.toList 1).2).2 < 0 ∨ putRec ⟨s[0].toNat, (getNum s.data.toList 1).1, (getText s.data.toList (getNum s.data.toList 1).2).1⟩ ≠ s.data.toList then none
    else some ⟨s[0].toNat, (getNum s.data.toList 1).1, (getText s.data.toList (getNum s.data.toList 1).2).1⟩ := by
    obtain ⟨t, ht⟩ := hcons
    conv => lhs; unfold specGot
    rw [ht]
  rw [HX]
  clear HX hcons
  have CN := hide (fun wx => specGetNum_any s 1 wx hs (by omega) (by omega))
  have hnl := getNum_le s 1
  have hnn : (getNum s.data.toList 1).2 < 0 → (getNum s.data.toList 1).2 = -1 := by
    intro h
    rcases getNum_cases s.data.toList 1 with e | ⟨I, k, _, _, _, e⟩
    · rw [e]
    · rw [e] at h; simp only at h; omega
  have hjb : -1 ≤ (getNum s.data.toList 1).2 ∧ (getNum s.data.toList 1).2 ≤ 1048576 := by omega
  obtain ⟨⟨n, j⟩, hnj⟩ : ∃ x, getNum s.data.toList 1 = x := ⟨_, rfl⟩
  rw [hnj] at CN hjb ⊢
  simp only at CN hjb ⊢
  clear hnl hnn hnj
  have CT := hide (fun wx => specGetText_any s j wx hs (by omega) (by omega))
  have hql := getText_len s j
  obtain ⟨⟨q, k⟩, hqk⟩ : ∃ x, getText s.data.toList j = x := ⟨_, rfl⟩
  rw [hqk] at CT hql ⊢
  simp only at CT hql ⊢
  clear hqk
  obtain ⟨b, hb⟩ : ∃ b, s[0].toNat = b := ⟨_, rfl⟩
  have hidx : s[0].toNat = b := hb
  rw [hb] at hby ⊢
  have CP := hide (fun wx => specPutRec_any ⟨b, n, q⟩ wx hql)
  have hpos : (0 : Int) < (s.size : Int) := by omega
  by_cases hk : k < 0
  · rw [if_pos (.inl hk)]
    go_enter Tryz.func11, Tryz.ntmps11
    go_wp2_with fail
    refine (unhide CN _).mono ?_
    rintro e w1 ⟨rfl, hb⟩
    have HB1 := hide (below_on (unhide HB0) hb)
    have V1 := hide ((unhide V0).below hb)
    clear hb
    go_wp2_with fail
    refine (unhide CT _).mono ?_
    rintro e w2 ⟨rfl, hb⟩
    have HB2 := hide (below_on (unhide HB1) hb)
    have V2 := hide ((unhide V1).below hb)
    have V3 := hide ((unhide V2).al (.cells #[.int .i64 b, .int .i64 n, .string (bs q)] 25))
    clear hb
    have v0 := (unhide V3).at 0
    have v1 := (unhide V3).at 1
    have v2 := (unhide V3).at 2
    have f0 := (unhide V3).f 0
    have f1 := (unhide V3).f 1
    have f2 := (unhide V3).f 2
    simp only [List.getElem?_toArray, List.getElem?_cons_succ, List.getElem?_cons_zero] at v0 v1 v2
    have s0 := sc_same v0
    have s1 := sc_same v1
    have s2 := sc_same v2
    go_wp2
    refine bodyPost_ret (v := recAns none) (by simp [results, Tryz.results11, go_sem, recAns, bs_nil, v0, v1, v2]) rfl ⟨rfl, below_al (unhide HB2) _⟩
  · by_cases hp : putRec ⟨b, n, q⟩ = s.data.toList
    · rw [if_neg (by rintro (h | h); exact hk h; exact h hp)]
      have hcmp := str_same hp
      clear hp
      go_enter Tryz.func11, Tryz.ntmps11
      go_wp2_with fail
      refine (unhide CN _).mono ?_
      rintro e w1 ⟨rfl, hb⟩
      have HB1 := hide (below_on (unhide HB0) hb)
      have V1 := hide ((unhide V0).below hb)
      clear hb
      go_wp2_with fail
      refine (unhide CT _).mono ?_
      rintro e w2 ⟨rfl, hb⟩
      have HB2 := hide (below_on (unhide HB1) hb)
      have V2 := hide ((unhide V1).below hb)
      have V3 := hide ((unhide V2).al (.cells #[.int .i64 b, .int .i64 n, .string (bs q)] 25))
      clear hb
      have HB3 := hide (below_al (unhide HB2) (.cells #[.int .i64 b, .int .i64 n, .string (bs q)] 25))
      have U3 := hide (blk_new w2 #[.int .i64 b, .int .i64 n, .string (bs q)] 25)
      go_wp2_with fail
      refine (unhide CP _).mono ?_
      rintro e w3 ⟨rfl, hb⟩
      have HB4 := hide (below_on (unhide HB3) hb)
      have V4 := hide ((unhide V3).below hb)
      have U4 := hide ((unhide U3).below hb)
      clear hb
      have v0 := (unhide V4).at 0
      have v1 := (unhide V4).at 1
      have v2 := (unhide V4).at 2
      have f0 := (unhide V4).f 0
      have f1 := (unhide V4).f 1
      have f2 := (unhide V4).f 2
      have u0 := (unhide U4).at 0
      have u1 := (unhide U4).at 1
      have u2 := (unhide U4).at 2
      simp at v0 v1 v2 u0 u1 u2
      have hV := ((unhide V4).set 0 (.int .i64 b)).set 1 (.int .i64 n)
      have hV2 := hV.set 2 (.string (bs q))
      simp at hV2
      have x0 := hV2.at 0
      have x1 := hV2.at 1
      have x2 := hV2.at 2
      simp at x0 x1 x2
      clear hV hV2
      go_wp2
      refine bodyPost_ret (v := recAns (some ⟨b, n, q⟩)) (by simp [results, Tryz.results11, go_sem, recAns, x0, x1, x2]) rfl ⟨rfl, ?_⟩
      exact below_sc (below_sc (below_sc (unhide HB4) _ _ _ (Nat.le_refl _)) _ _ _ (Nat.le_refl _)) _ _ _ (Nat.le_refl _)
    · rw [if_pos (.inr hp)]
      have hcmp := str_other hp
      clear hp
      go_enter Tryz.func11, Tryz.ntmps11
      go_wp2_with fail
      refine (unhide CN _).mono ?_
      rintro e w1 ⟨rfl, hb⟩
      have HB1 := hide (below_on (unhide HB0) hb)
      have V1 := hide ((unhide V0).below hb)
      clear hb
      go_wp2_with fail
      refine (unhide CT _).mono ?_
      rintro e w2 ⟨rfl, hb⟩
      have HB2 := hide (below_on (unhide HB1) hb)
      have V2 := hide ((unhide V1).below hb)
      have V3 := hide ((unhide V2).al (.cells #[.int .i64 b, .int .i64 n, .string (bs q)] 25))
      clear hb
      have HB3 := hide (below_al (unhide HB2) (.cells #[.int .i64 b, .int .i64 n, .string (bs q)] 25))
      have U3 := hide (blk_new w2 #[.int .i64 b, .int .i64 n, .string (bs q)] 25)
      go_wp2_with fail
      refine (unhide CP _).mono ?_
      rintro e w3 ⟨rfl, hb⟩
      have HB4 := hide (below_on (unhide HB3) hb)
      have V4 := hide ((unhide V3).below hb)
      have U4 := hide ((unhide U3).below hb)
      clear hb
      have v0 := (unhide V4).at 0
      have v1 := (unhide V4).at 1
      have v2 := (unhide V4).at 2
      have f0 := (unhide V4).f 0
      have f1 := (unhide V4).f 1
      have f2 := (unhide V4).f 2
      have u0 := (unhide U4).at 0
      have u1 := (unhide U4).at 1
      have u2 := (unhide U4).at 2
      simp at v0 v1 v2 u0 u1 u2
      have s0 := sc_same v0
      have s1 := sc_same v1
      have s2 := sc_same v2
      go_wp2
      refine bodyPost_ret (v := recAns none) (by simp [results, Tryz.results11, go_sem, recAns, bs_nil, v0, v1, v2]) rfl ⟨rfl, unhide HB4⟩
end Go.Proofs.YtobpjegfgegkcaaGreatDoor
