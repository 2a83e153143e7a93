/-
  Logs, in plain words: what is read of a log is what was written, entry by entry; of one that is cut off or spoilt at its end the whole ones ahead are left.
-/
import Derived.Test.YtobpjegfgegkcaaGreatDoorReadG
import Derived.Test.YtobpjegfgegkcaaGreatDoorWriteB
import Derived.Test.YtobpjegfgegkcaaGreatDoorSumsM
namespace Go.Proofs.YtobpjegfgegkcaaGreatDoor
open Go.RowKit
set_option linter.unusedVariables false
theorem getNum_at (l : List UInt8) (I N : Nat) (t : List UInt8) (hN : N ≤ 4000000000) (h : l.drop I = put N ++ t) : getNum l (I : Int) = ((N : Int), ((I + (put N).length : Nat) : Int)) := by
  have h0 := getNum_put N hN 0 t
  unfold getNum at h0 ⊢
  simp only [show ¬ ((1 : Int) < 0) by decide, if_false, Int.toNat_one, List.drop_succ_cons, List.drop_zero] at h0
  rw [if_neg (by omega), Int.toNat_natCast, h]
  cases hs : stop 5 (put N ++ t) with
  | none => rw [hs] at h0; simp at h0; omega
  | some j =>
    rw [hs] at h0
    simp only at h0 ⊢
    by_cases hp : putNum ((dv ((put N ++ t).take (j + 1)) : Nat) : Int) = (put N ++ t).take (j + 1)
    · rw [if_pos hp] at h0 ⊢
      simp only [Prod.mk.injEq] at h0 ⊢
      refine ⟨h0.1, ?_⟩
      have := h0.2
      omega
    · rw [if_neg hp] at h0
      simp at h0
      omega
theorem getText_at (l : List UInt8) (I : Nat) (a t : List UInt8) (ha : a.length ≤ 2000) (h : l.drop I = putText a ++ t) : getText l (I : Int) = (a, ((I + (putText a).length : Nat) : Int)) := by
  have hp : putText a = put a.length ++ a := by unfold putText; rw [if_pos ha]
  rw [hp, List.append_assoc] at h
  have hn := getNum_at l I a.length (a ++ t) (by omega) h
  have hlen := congrArg List.length h
  simp only [List.length_drop, List.length_append] at hlen
  have hpos := put_pos a.length
  unfold getText
  simp only
  rw [hn]
  simp only
  have hd : l.drop ((I + (put a.length).length : Nat) : Int).toNat = a ++ t := by
    rw [Int.toNat_natCast, ← List.drop_drop, h, List.drop_left]
  rw [if_neg (by omega), hd, Int.toNat_natCast, List.take_left, hp, List.length_append]
  congr 1
  omega
/-- a text whose length stands ahead of it, but that is not whole -/
theorem getText_cut (l : List UInt8) (I n : Nat) (a : List UInt8) (hn : n ≤ 2000) (ha : a.length < n) (h : l.drop I = put n ++ a) : (getText l (I : Int)).2 < 0 := by
  have hg := getNum_at l I n a (by omega) h
  have hlen := congrArg List.length h
  simp only [List.length_drop, List.length_append] at hlen
  have hpos := put_pos n
  unfold getText
  simp only
  rw [hg]
  simp only
  rw [if_pos (by right; right; omega)]
  simp
theorem gotRec_put {r : Rc} (h : recOk r = true) : gotRec (putRec r) = some r := by
  rw [← got_same]
  obtain ⟨k, a, q⟩ := r
  obtain ⟨b0, b1, b2, b3, b4⟩ := recOk_bd h
  simp only at b0 b1 b2 b3 b4
  have hp : putRec ⟨k, a, q⟩ = UInt8.ofNat k.toNat :: (putNum a ++ putText q) := by simp [putRec, h]
  have hb : ((UInt8.ofNat k.toNat).toNat : Int) = k := by rw [UInt8.toNat_ofNat']; omega
  have hpn : putNum a = put a.toNat := by unfold putNum; rw [if_pos (by omega)]
  have hn := getNum_at (putRec ⟨k, a, q⟩) 1 a.toNat (putText q) (by omega) (by rw [hp, hpn]; rfl)
  have ht := getText_at (putRec ⟨k, a, q⟩) (1 + (put a.toNat).length) q [] (by omega) (by
    rw [hp, hpn, List.append_nil, Nat.add_comm, List.drop_succ_cons, List.drop_left])
  have han : ((a.toNat : Nat) : Int) = a := by omega
  have h1 : ((1 : Nat) : Int) = 1 := rfl
  rw [h1, han] at hn
  unfold specGot
  rw [hp] at hn ht ⊢
  simp only
  rw [hn]
  simp only
  rw [ht]
  simp only [hb]
  rw [if_neg]
  rintro (h | h)
  · omega
  · exact h hp
theorem gotRec_back {t : List UInt8} {r : Rc} (h : gotRec t = some r) : putRec r = t ∧ recOk r = true := by
  rw [← got_same] at h
  unfold specGot at h
  split at h
  · exact absurd h (by simp)
  · rename_i b t'
    split at h
    · exact absurd h (by simp)
    · rename_i hc
      have hr := Option.some.inj h
      have he : putRec r = b :: t' := by rw [← hr]; exact Classical.not_not.1 (fun e => hc (.inr e))
      refine ⟨he, ?_⟩
      cases ho : recOk r with
      | true => rfl
      | false =>
        have hn : putRec r = [] := by unfold putRec; rw [ho]; rfl
        rw [hn] at he
        exact absurd he (by simp)

/-- what was written, one behind another -/
def flat : List Rc → List UInt8
  | [] => []
  | r :: t => entry r ++ flat t
theorem flat_app (a b : List Rc) : flat (a ++ b) = flat a ++ flat b := by
  induction a with
  | nil => rfl
  | cons x t ih => rw [List.cons_append, flat, flat, ih, List.append_assoc]
def allOk (l : List Rc) : Prop := ∀ r ∈ l, recOk r = true
theorem putRec_pos {r : Rc} (h : recOk r = true) : 1 ≤ (putRec r).length := by unfold putRec; rw [if_pos h]; simp
theorem putRec_len {r : Rc} : (putRec r).length ≤ 21 := by
  by_cases h : recOk r = true
  · have hb := recOk_bd h
    unfold putRec
    rw [if_pos h]
    have h1 := putNum_le r.app
    have h2 : (putText r.queue).length ≤ 15 := by
      unfold putText
      rw [if_pos (by omega), List.length_append]
      have := put_le5 (u := r.queue.length) (by omega)
      omega
    simp only [List.length_cons, List.length_append]
    omega
  · unfold putRec
    rw [if_neg h]
    simp
theorem entry_len (r : Rc) : (entry r).length ≤ 30 := by
  unfold entry
  rw [List.length_append]
  have h0 := putRec_len (r := r)
  have h1 : (putText (putRec r)).length ≤ 26 := by
    unfold putText
    rw [if_pos (by omega), List.length_append]
    have := put_le5 (u := (putRec r).length) (by omega)
    omega
  have h2 : (word (crc (putRec r))).length = 4 := rfl
  omega
theorem word_at (s : ByteArray) (i : Nat) (x : List UInt8) (c : Nat) (hc : c < 4294967296) (h : s.data.toList.drop i = word c ++ x) : i + 4 ≤ s.size ∧ svN s i 4 = c := by
  have hlen := congrArg List.length h
  have h4 : (word c).length = 4 := rfl
  simp only [List.length_drop, List.length_append, h4, len_eq] at hlen
  have h5 : i + 4 ≤ s.size := by omega
  refine ⟨h5, ((word_sv s i h5 c hc).1 ?_).symm⟩
  rw [extract_pre]
  unfold pre
  rw [h]
  congr 1
/-- an entry that stands there is read -/
theorem entry_read (s : ByteArray) (i : Nat) (r : Rc) (z : List UInt8) (ho : recOk r = true) (h : s.data.toList.drop i = entry r ++ z) : readEntry s i = some (r, ((i + (entry r).length : Nat) : Int)) := by
  have hc : crc (putRec r) < 4294967296 := xor_lt32 (crcTo_lt _) (by decide)
  unfold entry at h
  rw [List.append_assoc] at h
  obtain ⟨h4, hv⟩ := word_at s i _ _ hc h
  have hd : s.data.toList.drop (i + 4) = putText (putRec r) ++ z := by
    rw [← List.drop_drop, h]
    rfl
  have hl := putRec_len (r := r)
  have ht := getText_at s.data.toList (i + 4) (putRec r) z (by omega) hd
  rw [entry_of h4, ht]
  simp only
  rw [if_neg (by omega), gotRec_put ho]
  simp only
  rw [if_pos hv.symm]
  congr 2
  unfold entry
  rw [List.length_append]
  have : (word (crc (putRec r))).length = 4 := rfl
  omega
/-- what is read is an entry that stands there -/
theorem entry_bytes {s : ByteArray} {i : Nat} {r : Rc} {j : Int} (h : readEntry s i = some (r, j)) : recOk r = true ∧ j = ((i + (entry r).length : Nat) : Int) ∧ s.data.toList.drop i = entry r ++ s.data.toList.drop j.toNat := by
  have hon := entry_on h
  have h4 : i + 4 ≤ s.size := by
    apply Nat.le_of_not_lt
    intro hlt
    rw [entry_short (by omega)] at h
    exact absurd h (by simp)
  rw [entry_of h4] at h
  split at h
  · exact absurd h (by simp)
  · rename_i hj
    obtain ⟨_, hl, hsp, _⟩ := getText_split _ _ hj
    obtain ⟨⟨t, k⟩, htk⟩ : ∃ x, getText s.data.toList ((i + 4 : Nat) : Int) = x := ⟨_, rfl⟩
    rw [htk] at h hj hl hsp
    simp only at h hj hl hsp
    split at h
    · exact absurd h (by simp)
    · rename_i r' hr
      split at h
      · rename_i hcr
        simp only [Option.some.injEq, Prod.mk.injEq] at h
        obtain ⟨rfl, rfl⟩ := h
        obtain ⟨hp, ho⟩ := gotRec_back hr
        subst hp
        have hc : crc (putRec r') < 4294967296 := xor_lt32 (crcTo_lt _) (by decide)
        have hw := (word_sv s i h4 _ hc).2 hcr
        have hw2 : (s.data.toList.drop i).take 4 = word (crc (putRec r')) := by
          rw [extract_pre] at hw
          have := congrArg (fun x : ByteArray => x.data.toList) hw
          simpa [bs, pre] using this
        have hb : s.data.toList.drop i = entry r' ++ s.data.toList.drop k.toNat := by
          unfold entry
          rw [List.append_assoc, ← hw2]
          have hsp' : s.data.toList.drop (i + 4) = putText (putRec r') ++ s.data.toList.drop k.toNat := hsp
          rw [← hsp', ← List.drop_drop, List.take_append_drop]
        refine ⟨ho, ?_, hb⟩
        have hlen := congrArg List.length hb
        rw [List.length_append, List.length_drop, List.length_drop, len_eq] at hlen
        omega
      · exact absurd h (by simp)
/-- what is read of a log stands at its beginning -/
theorem readF_flat (s : ByteArray) : ∀ (n i : Nat) (acc : List Rc), i ≤ s.size → s.data.toList.take i = flat acc → allOk acc →
    ∃ E : Nat, (readF s n i acc).2 = (E : Int) ∧ E ≤ s.size ∧ s.data.toList.take E = flat (readF s n i acc).1 ∧ allOk (readF s n i acc).1
  | 0, i, acc, h0, h1, h2 => ⟨i, rfl, h0, h1, h2⟩
  | n + 1, i, acc, h0, h1, h2 => by
    by_cases hd : s.size ≤ i
    · rw [readF_done hd]; exact ⟨i, rfl, h0, h1, h2⟩
    · cases hx : readEntry s i with
      | none => rw [readF_none hx]; exact ⟨i, rfl, h0, h1, h2⟩
      | some y =>
        obtain ⟨r, j⟩ := y
        obtain ⟨ho, hj, hb⟩ := entry_bytes hx
        have he := entry_on hx
        rw [readF_some (by omega) hx]
        refine readF_flat s n j.toNat _ (by omega) ?_ ?_
        · have hjn : j.toNat = i + (entry r).length := by omega
          rw [hjn, List.take_add, h1, hb, List.take_left, flat_app]
          simp [flat]
        · intro x hx'
          rcases List.mem_append.1 hx' with h | h
          · exact h2 x h
          · simp at h; subst h; exact ho
/-- a log that begins with entries is read up to their end -/
theorem readF_go (s : ByteArray) : ∀ (l : List Rc) (n i : Nat) (acc : List Rc) (z : List UInt8), allOk l → s.data.toList.drop i = flat l ++ z → l.length ≤ n → readF s n i acc = readF s (n - l.length) (i + (flat l).length) (acc ++ l)
  | [], n, i, acc, z, _, _, _ => by simp [flat]
  | r :: t, n, i, acc, z, ho, h, hn => by
    have hr : recOk r = true := ho r (by simp)
    rw [flat, List.append_assoc] at h
    have hx := entry_read s i r _ hr h
    have hlen := congrArg List.length h
    have hp := entry_on hx
    obtain ⟨m, rfl⟩ : ∃ m, n = m + 1 := ⟨n - 1, by simp at hn; omega⟩
    rw [readF_some (by omega) hx, Int.toNat_natCast]
    rw [readF_go s t m (i + (entry r).length) (acc ++ [r]) z (fun x hx => ho x (by simp [hx])) (by rw [← List.drop_drop, h, List.drop_left]) (by simp at hn; omega)]
    rw [flat, List.length_append]
    simp only [List.length_cons, List.append_assoc, List.cons_append, List.nil_append]
    congr 1 <;> omega
theorem flat_len : ∀ (l : List Rc), allOk l → 5 * l.length ≤ (flat l).length
  | [], _ => by simp
  | r :: t, h => by
    have := flat_len t (fun x hx => h x (by simp [hx]))
    have h1 : 5 ≤ (entry r).length := by
      unfold entry
      rw [List.length_append]
      have h2 : (word (crc (putRec r))).length = 4 := rfl
      have h3 := putRec_pos (h r (by simp))
      have h4 : 1 ≤ (putText (putRec r)).length := by
        unfold putText
        rw [if_pos (by have := putRec_len (r := r); omega), List.length_append]
        omega
      omega
    rw [flat, List.length_append]
    simp
    omega
/-- a log of entries with a rest behind them of which none is read -/
theorem readV_rest (l : List Rc) (z : List UInt8) (ho : allOk l) (hs : (flat l ++ z).length ≤ 60000) (hz : z = [] ∨ readEntry (bs (flat l ++ z)) (flat l).length = none) : readV (bs (flat l ++ z)) = (l, ((flat l).length : Int)) := by
  have hsz : (bs (flat l ++ z)).size = (flat l ++ z).length := bs_size _
  have hf := flat_len l ho
  unfold readV
  rw [if_neg (by omega), readF_go (bs (flat l ++ z)) l _ 0 [] z ho rfl (by rw [hsz, List.length_append]; omega)]
  obtain ⟨m, hm⟩ : ∃ m, (bs (flat l ++ z)).size + 1 - l.length = m + 1 := ⟨(bs (flat l ++ z)).size - l.length, by rw [hsz, List.length_append]; omega⟩
  rw [hm, Nat.zero_add, List.nil_append]
  rcases hz with rfl | h
  · exact readF_done (by rw [hsz]; simp)
  · exact readF_none h
/-- a log is what was read of it, and a rest -/
theorem readV_flat (s : ByteArray) (hs : s.size ≤ 60000) : ∃ E : Nat, (readV s).2 = (E : Int) ∧ E ≤ s.size ∧ s.data.toList.take E = flat (readV s).1 ∧ allOk (readV s).1 := by
  have h := readF_flat s (s.size + 1) 0 [] (by omega) (by simp [flat]) (fun r h => by simp at h)
  unfold readV
  rw [if_neg (by omega)]
  exact h
end Go.Proofs.YtobpjegfgegkcaaGreatDoor
