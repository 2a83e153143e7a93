/-
  Amounts: what is added can be taken away again; shares; texts that come back: plain mathematics.
-/
import Derived.Test.YtoejklldpceghaaDoorBoth
import Derived.Test.YtoejklldpceghaaDoorWithinS
import Derived.Test.YtoejklldpceghaaDoorShareS
import Derived.Test.YtoejklldpceghaaDoorReadResS
import Derived.Test.YtoejklldpceghaaDoorResTextS
namespace Go.Proofs.YtoejklldpceghaaDoor

theorem resOk_mk {a b : Int} (h0 : 0 ≤ a) (h1 : a ≤ 1000000000) (h2 : 0 ≤ b) (h3 : b ≤ 1000000000) : resOk a b = true := by simp [resOk, inB, h0, h1, h2, h3]
theorem both_parts {s a b c d : Int} (h : bothOk s a b c d = true) : resOk a b = true ∧ resOk c d = true ∧ resOk (a + s * c) (b + s * d) = true := by
  simp only [bothOk, Bool.and_eq_true] at h
  exact ⟨h.1.1, h.1.2, h.2⟩
theorem add_back {a b c d : Int} (h : bothOk 1 a b c d = true) : bothOk (-1) (a + 1 * c) (b + 1 * d) c d = true ∧ bothV (-1) (a + 1 * c) (b + 1 * d) c d = rv a b := by
  obtain ⟨h1, h2, h3⟩ := both_parts h
  have e1 : a + 1 * c + -1 * c = a := by omega
  have e2 : b + 1 * d + -1 * d = b := by omega
  have hk : bothOk (-1) (a + 1 * c) (b + 1 * d) c d = true := by simp only [bothOk, h2, h3, e1, e2, h1]; rfl
  exact ⟨hk, by rw [both_yes hk, e1, e2]⟩
theorem add_within {a b c d : Int} (h : bothOk 1 a b c d = true) : within a b (a + 1 * c) (b + 1 * d) = true := by
  obtain ⟨h1, h2, h3⟩ := both_parts h
  have := resOk_bd h2
  have l1 : a ≤ a + 1 * c := by omega
  have l2 : b ≤ b + 1 * d := by omega
  simp only [within, h1, h3, l1, l2]; rfl
theorem sub_within {a b c d : Int} (h1 : resOk a b = true) (h2 : resOk c d = true) : bothOk (-1) a b c d = within c d a b := by
  obtain ⟨q1, q2, q3, q4⟩ := resOk_bd h1
  obtain ⟨q5, q6, q7, q8⟩ := resOk_bd h2
  rw [bothOk, within, h1, h2, Bool.eq_iff_iff]
  simp only [resOk, inB, Bool.and_eq_true, decide_eq_true_eq, Bool.true_and]
  constructor
  · intro h; exact ⟨by omega, by omega⟩
  · intro h; exact ⟨⟨by omega, by omega⟩, ⟨by omega, by omega⟩⟩

theorem digs (u : Nat) : (Lib.decDigits u).all isD = true ∧ val (Lib.decDigits u) = u := by
  induction u using Nat.strongRecOn with
  | _ u ih =>
    rw [Lib.decDigits]
    by_cases h : u < 10
    · rw [dif_pos h]
      have e : (UInt8.ofNat (48 + u)).toNat = 48 + u := by rw [UInt8.toNat_ofNat']; omega
      refine ⟨?_, ?_⟩
      · rw [List.all_cons, List.all_nil, Bool.and_true, isD_iff, e]; omega
      · simp only [val, List.foldl_cons, List.foldl_nil, e]; omega
    · rw [dif_neg h]
      obtain ⟨i1, i2⟩ := ih (u / 10) (by omega)
      have e : (UInt8.ofNat (48 + u % 10)).toNat = 48 + u % 10 := by rw [UInt8.toNat_ofNat']; omega
      refine ⟨?_, ?_⟩
      · rw [List.all_append, i1, List.all_cons, List.all_nil, Bool.and_true, Bool.true_and, isD_iff, e]; omega
      · rw [val_snoc, i2, e]; omega
theorem nDigits_le : ∀ (k u : Nat), u < 10 ^ (k + 1) → Lib.nDigits u ≤ k + 1
  | 0, u, h => by rw [Lib.nDigits_small (by simpa using h)]; exact Nat.le_refl _
  | k + 1, u, h => by
    by_cases h10 : u < 10
    · rw [Lib.nDigits_small h10]; omega
    · rw [Lib.nDigits_big h10]
      have := nDigits_le k (u / 10) (by rw [Nat.pow_succ] at h; omega)
      omega
theorem readDec_itoa {a : Int} (h0 : 0 ≤ a) (h1 : a ≤ 1000000000) : readDec (Lib.itoa a) = a := by
  obtain ⟨u, rfl⟩ := Int.eq_ofNat_of_zero_le h0
  rw [Lib.itoa_nonneg]
  obtain ⟨d1, d2⟩ := digs u
  have hp := Lib.nDigits_pos u
  have hl := Lib.decDigits_length u
  have hz : noughtAhead (Lib.decDigits u) = false := (dec_val_iff (by omega) d1).1 (by rw [d2])
  have h10 : (Lib.decDigits u).length ≤ 10 := by
    rw [hl]
    exact nDigits_le 9 u (by omega)
  rw [readDec_yes (by omega) h10 d1 hz (by rw [d2]; omega), d2]
theorem no_x (u : Nat) : ∀ c ∈ Lib.decDigits u, c ≠ 120 := by
  intro c hc e
  have := List.all_eq_true.1 (digs u).1 c hc
  rw [isD_iff, e] at this
  revert this; decide
theorem xAt_app : ∀ (l r : List UInt8), (∀ c ∈ l, c ≠ 120) → xAt (l ++ 120 :: r) = l.length
  | [], r, _ => by simp [xAt]
  | b :: t, r, h => by
    rw [List.cons_append, xAt, if_neg (h b (by simp)), xAt_app t r (fun c hc => h c (by simp [hc]))]; rfl
theorem text_back {a b : Int} (h : resOk a b = true) : readM (resText a b).data.toList = a ∧ readC (resText a b).data.toList = b := by
  obtain ⟨q1, q2, q3, q4⟩ := resOk_bd h
  have e : (resText a b).data.toList = Lib.itoa a ++ 120 :: Lib.itoa b := by simp [resText, bs]
  obtain ⟨u, rfl⟩ := Int.eq_ofNat_of_zero_le q1
  have hx : xAt (Lib.itoa (u : Int) ++ 120 :: Lib.itoa b) = (Lib.itoa (u : Int)).length := xAt_app _ _ (by rw [Lib.itoa_nonneg]; exact no_x u)
  have hlt : xAt (Lib.itoa (u : Int) ++ 120 :: Lib.itoa b) < (Lib.itoa (u : Int) ++ 120 :: Lib.itoa b).length := by rw [hx]; simp
  rw [e, readM, readC, if_pos hlt, if_pos hlt, hx]
  constructor
  · rw [List.take_left']
    · exact readDec_itoa q1 q2
    · rfl
  · rw [show Lib.itoa (u : Int) ++ 120 :: Lib.itoa b = (Lib.itoa (u : Int) ++ [120]) ++ Lib.itoa b by simp, List.drop_left']
    · exact readDec_itoa q3 q4
    · simp
theorem text_ok {a b : Int} (h : resOk a b = true) : readROk (resText a b).data.toList = true ∧ readRV (resText a b).data.toList = rv a b := by
  obtain ⟨e1, e2⟩ := text_back h
  have hk : readROk (resText a b).data.toList = true := by rw [readROk, e1, e2]; exact h
  exact ⟨hk, by rw [readRV, hk, e1, e2]; rfl⟩
theorem itoa_readDec {l : List UInt8} (h : 0 ≤ readDec l) : Lib.itoa (readDec l) = l := by
  unfold readDec at *
  by_cases ho : readOk l = true
  · rw [if_pos ho] at *
    simp only [readOk, Bool.and_eq_true, decide_eq_true_eq, Bool.not_eq_true'] at ho
    obtain ⟨⟨⟨h1, h2⟩, h3⟩, h4⟩ := ho
    have h1' : 1 ≤ l.length := by simp only [inB, decide_eq_true_eq] at h1; omega
    rw [Lib.itoa_nonneg, (dec_val_iff h1' h2).2 h3]
  · rw [if_neg ho] at h; omega
theorem xAt_at : ∀ (l : List UInt8) (h : xAt l < l.length), l[xAt l] = 120
  | b :: t, h => by
    by_cases e : b = 120
    · simp [xAt, e]
    · have hx : xAt (b :: t) = xAt t + 1 := by rw [xAt, if_neg e]
      have := xAt_at t (by rw [hx] at h; simpa using h)
      simp only [hx, List.getElem_cons_succ]
      exact this
theorem read_back {s : ByteArray} (h : readROk s.data.toList = true) : resText (readM s.data.toList) (readC s.data.toList) = s := by
  obtain ⟨q1, q2, q3, q4⟩ := resOk_bd h
  by_cases hx : xAt s.data.toList < s.data.toList.length
  · have e1 : readM s.data.toList = readDec (s.data.toList.take (xAt s.data.toList)) := if_pos hx
    have e2 : readC s.data.toList = readDec (s.data.toList.drop (xAt s.data.toList + 1)) := if_pos hx
    rw [e1] at q1 ⊢
    rw [e2] at q3 ⊢
    apply WideShapes.bytes_inj
    have e : (resText (readDec (s.data.toList.take (xAt s.data.toList))) (readDec (s.data.toList.drop (xAt s.data.toList + 1)))).data.toList = s.data.toList := by
      simp only [resText, bs, List.toList_toArray]
      rw [itoa_readDec q1, itoa_readDec q3]
      have := xAt_at _ hx
      rw [← this, ← List.drop_eq_getElem_cons hx, List.take_append_drop]
    exact e
  · have e1 : readM s.data.toList = -1 := if_neg hx
    omega
theorem share_le {a n : Int} (h0 : 0 ≤ a) (h1 : 0 ≤ n) (h2 : n ≤ 10000) : 0 ≤ a * n / 10000 ∧ a * n / 10000 ≤ a := by
  obtain ⟨m1, m2⟩ := mul_bd h0 (Int.le_refl a) h1 h2
  omega
theorem share_add {a n m : Int} : a * n / 10000 + a * m / 10000 ≤ a * (n + m) / 10000 := by
  rw [Int.mul_add]
  omega
theorem share_ok {a b n : Int} (h : shareOk a b n = true) : resOk (shareM a b n) (shareC a b n) = true ∧ within (shareM a b n) (shareC a b n) a b = true := by
  have h' := h
  simp only [shareOk, Bool.and_eq_true] at h'
  obtain ⟨q1, q2, q3, q4⟩ := resOk_bd h'.1
  have hn : 0 ≤ n ∧ n ≤ 10000 := by simpa [inB] using h'.2
  obtain ⟨s1, s2⟩ := share_le q1 hn.1 hn.2
  obtain ⟨s3, s4⟩ := share_le q3 hn.1 hn.2
  have e1 : shareM a b n = a * n / 10000 := by rw [shareM, if_pos h]
  have e2 : shareC a b n = b * n / 10000 := by rw [shareC, if_pos h]
  rw [e1, e2]
  have hr : resOk (a * n / 10000) (b * n / 10000) = true := resOk_mk s1 (by omega) s3 (by omega)
  exact ⟨hr, by simp only [within, hr, h'.1, s2, s4]; rfl⟩
/-- two shares are no more than that of both -/
theorem share_both {a b n m : Int} (h : shareOk a b n = true) (hm : 0 ≤ m) (hs : n + m ≤ 10000) :
    bothOk 1 (shareM a b n) (shareC a b n) (shareM a b m) (shareC a b m) = true ∧ within (shareM a b n + 1 * shareM a b m) (shareC a b n + 1 * shareC a b m) (shareM a b (n + m)) (shareC a b (n + m)) = true := by
  have h' := h
  simp only [shareOk, Bool.and_eq_true] at h'
  obtain ⟨q1, q2, q3, q4⟩ := resOk_bd h'.1
  have hn : 0 ≤ n ∧ n ≤ 10000 := by simpa [inB] using h'.2
  have km : shareOk a b m = true := by simp [shareOk, h'.1, inB]; omega
  have ks : shareOk a b (n + m) = true := by simp [shareOk, h'.1, inB]; omega
  obtain ⟨r1, _⟩ := share_ok h
  obtain ⟨r2, _⟩ := share_ok km
  obtain ⟨r3, _⟩ := share_ok ks
  have e1 : shareM a b n = a * n / 10000 := by rw [shareM, if_pos h]
  have e2 : shareC a b n = b * n / 10000 := by rw [shareC, if_pos h]
  have e3 : shareM a b m = a * m / 10000 := by rw [shareM, if_pos km]
  have e4 : shareC a b m = b * m / 10000 := by rw [shareC, if_pos km]
  have e5 : shareM a b (n + m) = a * (n + m) / 10000 := by rw [shareM, if_pos ks]
  have e6 : shareC a b (n + m) = b * (n + m) / 10000 := by rw [shareC, if_pos ks]
  have a1 := share_add (a := a) (n := n) (m := m)
  have a2 := share_add (a := b) (n := n) (m := m)
  rw [← e1, ← e3, ← e5] at a1
  rw [← e2, ← e4, ← e6] at a2
  have b1 := resOk_bd r1
  have b2 := resOk_bd r2
  have b3 := resOk_bd r3
  have l1 : shareM a b n + 1 * shareM a b m ≤ shareM a b (n + m) := by omega
  have l2 : shareC a b n + 1 * shareC a b m ≤ shareC a b (n + m) := by omega
  have hr : resOk (shareM a b n + 1 * shareM a b m) (shareC a b n + 1 * shareC a b m) = true := resOk_mk (by omega) (by omega) (by omega) (by omega)
  exact ⟨by simp only [bothOk, r1, r2, hr]; rfl, by simp only [within, hr, r3, l1, l2]; rfl⟩
end Go.Proofs.YtoejklldpceghaaDoor
