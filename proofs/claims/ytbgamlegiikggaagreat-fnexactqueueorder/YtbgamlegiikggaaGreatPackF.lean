/-
  Several texts of this claim in one: ShareS, OfM, WithM, WithinS, QueuesOkS, LeafS, OverM (pack.py put them together); each says in its own remark what is proved.
-/
import Derived.Test.YtbgamlegiikggaaGreatPackC
import Derived.Test.YtbgamlegiikggaaGreatPackB
import Derived.Deep.RegionWith
import Derived.Test.YtbgamlegiikggaaGreatPackE
/-
  A share of an amount: what the model's Share answers; a walk over the dump.
-/
namespace Go.Proofs.YtbgamlegiikggaaGreat
open Go.RowKit
set_option linter.unusedVariables false

def shareOk (a b n : Int) : Bool := resOk a b && inB n 0 10000
def shareM (a b n : Int) : Int := if shareOk a b n then a * n / 10000 else 0
def shareC (a b n : Int) : Int := if shareOk a b n then b * n / 10000 else 0
theorem mul_bd {a n A N : Int} (h0 : 0 ≤ a) (h1 : a ≤ A) (h2 : 0 ≤ n) (h3 : n ≤ N) : 0 ≤ a * n ∧ a * n ≤ A * N :=
  ⟨Int.mul_nonneg h0 h2, Int.mul_le_mul h1 h3 h2 (Int.le_trans h0 h1)⟩
set_option maxRecDepth 100000 in
set_option maxHeartbeats 1000000 in
theorem specShare_any (a b n : Int) (w : World) :
    Calls Tryz.prog 114 #[rv a b, .int .i64 n] w fun e w' => e = .returned (rv (shareM a b n) (shareC a b n)) ∧ Below w.heap.size w w' := by
  cases h1 : resOk a b
  · rw [show shareM a b n = 0 by simp [shareM, shareOk, h1], show shareC a b n = 0 by simp [shareC, shareOk, h1]]
    go_enter Tryz.func114, Tryz.ntmps114
    go_wp2_with (first | (go_at_call 81; refine (specResOk_any _ _ _).mono ?_; rintro e w' ⟨rfl, rfl⟩) | (go_at_call 96; refine (l01In_any _ _ _ _).mono ?_; rintro e w' ⟨rfl, rfl⟩))
    refine bodyPost_ret (v := rv 0 0) (by simp [results, Tryz.results114, go_sem]) rfl ⟨rfl, ?_⟩
    repeat (first | exact Below.refl _ _ | refine below_al ?_ _ | refine Below.drew ?_ | refine below_sc ?_ _ _ _ (by omega))
  · cases h2 : inB n 0 10000
    · rw [show shareM a b n = 0 by simp [shareM, shareOk, h2], show shareC a b n = 0 by simp [shareC, shareOk, h2]]
      go_enter Tryz.func114, Tryz.ntmps114
      go_wp2_with (first | (go_at_call 81; refine (specResOk_any _ _ _).mono ?_; rintro e w' ⟨rfl, rfl⟩) | (go_at_call 96; refine (l01In_any _ _ _ _).mono ?_; rintro e w' ⟨rfl, rfl⟩))
      refine bodyPost_ret (v := rv 0 0) (by simp [results, Tryz.results114, go_sem]) rfl ⟨rfl, ?_⟩
      repeat (first | exact Below.refl _ _ | refine below_al ?_ _ | refine Below.drew ?_ | refine below_sc ?_ _ _ _ (by omega))
    · rw [show shareM a b n = a * n / 10000 by simp [shareM, shareOk, h1, h2], show shareC a b n = b * n / 10000 by simp [shareC, shareOk, h1, h2]]
      obtain ⟨q1, q2, q3, q4⟩ := resOk_bd h1
      have hn : 0 ≤ n ∧ n ≤ 10000 := by simpa [inB] using h2
      obtain ⟨m1, m2⟩ := mul_bd q1 q2 hn.1 hn.2
      obtain ⟨m3, m4⟩ := mul_bd q3 q4 hn.1 hn.2
      go_enter Tryz.func114, Tryz.ntmps114
      go_wp2_with (first | (go_at_call 81; refine (specResOk_any _ _ _).mono ?_; rintro e w' ⟨rfl, rfl⟩) | (go_at_call 96; refine (l01In_any _ _ _ _).mono ?_; rintro e w' ⟨rfl, rfl⟩))
      refine bodyPost_ret (v := rv (a * n / 10000) (b * n / 10000)) (by simp [results, Tryz.results114, go_sem]) rfl ⟨rfl, ?_⟩
      repeat (first | exact Below.refl _ _ | refine below_al ?_ _ | refine Below.drew ?_ | refine below_sc ?_ _ _ _ (by omega))
end Go.Proofs.YtbgamlegiikggaaGreat

/-
  What is due to a queue of a total, and the most that it may have: in plain words.
-/
namespace Go.Proofs.YtbgamlegiikggaaGreat
open Go.RowKit
set_option linter.unusedVariables false

def fieldOf (most : Bool) (q : Q) : Int := if most then q.most else q.due
def byName (l : List Q) (n : List UInt8) : Q := l.getD (place l n).toNat ⟨[], [], 0, 0⟩
def ofP (l : List Q) (most : Bool) (t : Int × Int) : List (List UInt8) → Int × Int
  | [] => t
  | [_] => t
  | n :: m :: r => (shareM (ofP l most t (m :: r)).1 (ofP l most t (m :: r)).2 (fieldOf most (byName l n)), shareC (ofP l most t (m :: r)).1 (ofP l most t (m :: r)).2 (fieldOf most (byName l n)))
def ofR (l : List Q) (nm : List UInt8) (a b : Int) (most : Bool) : Int × Int := if path l nm = [] ∨ resOk a b = false then (0, 0) else ofP l most (a, b) (path l nm)
theorem ofP_last (l : List Q) (most : Bool) (t : Int × Int) {p : List (List UInt8)} (h : p ≠ []) : ofP l most t (p.drop (p.length - 1)) = t := by
  have hl : 0 < p.length := List.length_pos_iff.2 h
  rw [List.drop_eq_getElem_cons (by omega), show p.length - 1 + 1 = p.length by omega, List.drop_length]
  rfl
theorem ofP_step (l : List Q) (most : Bool) (t : Int × Int) {p : List (List UInt8)} {j : Nat} (h : j + 1 < p.length) :
    ofP l most t (p.drop j) = (shareM (ofP l most t (p.drop (j + 1))).1 (ofP l most t (p.drop (j + 1))).2 (fieldOf most (byName l p[j])), shareC (ofP l most t (p.drop (j + 1))).1 (ofP l most t (p.drop (j + 1))).2 (fieldOf most (byName l p[j]))) := by
  rw [List.drop_eq_getElem_cons (show j < p.length by omega), List.drop_eq_getElem_cons h, ofP]
theorem pathAt_names {l : List Q} (h : queuesOk l = true) : ∀ (n : Nat) (p : Int), ∀ x ∈ pathAt l n p, ∃ k : Nat, ∃ hk : k < l.length, place l x = k ∧ l[k].name = x
  | 0, _, x, hx => by simp [pathAt] at hx
  | n + 1, p, x, hx => by
    rw [pathAt] at hx
    split at hx
    · rename_i hp
      rcases List.mem_cons.1 hx with rfl | hx
      · refine ⟨p.toNat, hp.2, ?_, rfl⟩
        have := ok_at h p.toNat hp.2
        simp only [qOk, Bool.and_eq_true, decide_eq_true_eq] at this
        exact this.1.1.1.2
      · exact pathAt_names h n _ x hx
    · simp at hx
theorem path_names {l : List Q} {nm : List UInt8} : ∀ x ∈ path l nm, ∃ k : Nat, ∃ hk : k < l.length, place l x = k ∧ byName l x = l[k] := fun x hx => by
  unfold path at hx
  split at hx
  · rename_i h
    obtain ⟨k, hk, h1, h2⟩ := pathAt_names h _ _ x hx
    exact ⟨k, hk, h1, by rw [byName, h1]; simp [List.getD_eq_getElem?_getD, List.getElem?_eq_getElem hk]⟩
  · simp at hx
theorem pathAt_len {l : List Q} : ∀ (n : Nat) (p : Int), (pathAt l n p).length ≤ n
  | 0, _ => by simp [pathAt]
  | n + 1, p => by
    rw [pathAt]
    split
    · have := pathAt_len (l := l) n (place l l[p.toNat].parent); simp; exact this
    · simp
theorem path_len (l : List Q) (nm : List UInt8) : (path l nm).length ≤ l.length + 1 := by
  unfold path; split
  · exact pathAt_len _ _
  · simp
end Go.Proofs.YtbgamlegiikggaaGreat

/-
  One amount within another: in plain words.
-/
namespace Go.Proofs.YtbgamlegiikggaaGreat
def within (a b c d : Int) : Bool := resOk a b && resOk c d && decide (a ≤ c) && decide (b ≤ d)
end Go.Proofs.YtbgamlegiikggaaGreat

/-
  Whether one amount is within another: what the model's Within answers; a walk over the dump.
-/
namespace Go.Proofs.YtbgamlegiikggaaGreat
open Go.RowKit
set_option linter.unusedVariables false

set_option maxRecDepth 100000 in
set_option maxHeartbeats 1000000 in
theorem specWithin_any (a b c d : Int) (w : World) :
    Calls Tryz.prog 45 #[rv a b, rv c d] w fun e w' => e = .returned (.bool (within a b c d)) ∧ Below w.heap.size w w' := by
  cases h1 : resOk a b
  · rw [show within a b c d = false by simp [within, h1]]
    go_enter Tryz.func45, Tryz.ntmps45
    go_wp2_with (go_at_call 81; refine (specResOk_any _ _ _).mono ?_; rintro e w' ⟨rfl, rfl⟩)
    go_ret
    refine ⟨rfl, ?_⟩
    repeat (first | exact Below.refl _ _ | refine below_al ?_ _ | refine Below.drew ?_ | refine below_sc ?_ _ _ _ (by omega))
  · cases h2 : resOk c d
    · rw [show within a b c d = false by simp [within, h2]]
      go_enter Tryz.func45, Tryz.ntmps45
      go_wp2_with (go_at_call 81; refine (specResOk_any _ _ _).mono ?_; rintro e w' ⟨rfl, rfl⟩)
      go_ret
      refine ⟨rfl, ?_⟩
      repeat (first | exact Below.refl _ _ | refine below_al ?_ _ | refine Below.drew ?_ | refine below_sc ?_ _ _ _ (by omega))
    · by_cases h3 : a ≤ c
      · by_cases h4 : b ≤ d
        · rw [show within a b c d = true by simp [within, h1, h2, h3, h4]]
          go_enter Tryz.func45, Tryz.ntmps45
          go_wp2_with (go_at_call 81; refine (specResOk_any _ _ _).mono ?_; rintro e w' ⟨rfl, rfl⟩)
          go_ret
          refine ⟨rfl, ?_⟩
          repeat (first | exact Below.refl _ _ | refine below_al ?_ _ | refine Below.drew ?_ | refine below_sc ?_ _ _ _ (by omega))
        · rw [show within a b c d = false by simp [within, h4]]
          go_enter Tryz.func45, Tryz.ntmps45
          go_wp2_with (go_at_call 81; refine (specResOk_any _ _ _).mono ?_; rintro e w' ⟨rfl, rfl⟩)
          go_ret
          refine ⟨ret_bool (decide_eq_false (by omega)), ?_⟩
          repeat (first | exact Below.refl _ _ | refine below_al ?_ _ | refine Below.drew ?_ | refine below_sc ?_ _ _ _ (by omega))
      · rw [show within a b c d = false by simp [within, h3]]
        go_enter Tryz.func45, Tryz.ntmps45
        go_wp2_with (go_at_call 81; refine (specResOk_any _ _ _).mono ?_; rintro e w' ⟨rfl, rfl⟩)
        go_ret
        refine ⟨rfl, ?_⟩
        repeat (first | exact Below.refl _ _ | refine below_al ?_ _ | refine Below.drew ?_ | refine below_sc ?_ _ _ _ (by omega))
end Go.Proofs.YtbgamlegiikggaaGreat

/-
  Whether queues are a tree: what the model's QueuesOk answers; a walk over the dump.
-/
namespace Go.Proofs.YtbgamlegiikggaaGreat
open Go.RowKit
set_option linter.unusedVariables false

set_option maxRecDepth 100000 in
set_option maxHeartbeats 4000000 in
theorem specQueuesOk_any (ao : Option Addr) (len cap : Nat) (l : List Q) (w : World) (h : QRow w ao len l) (hl : len ≤ 1048576) (hn : ∀ q ∈ l, q.name.length ≤ 1048576) :
    Calls Tryz.prog 56 #[.slice ao len cap] w fun e w' => e = .returned (.bool (queuesOk l)) ∧ Below w.heap.size w w' := by
  have HR := hide h
  have HL := hide h.1
  have HN := hide hn
  clear h hn
  go_enter Tryz.func56, Tryz.ntmps56
  go_wp2
  go_loopw [3] (fun i wr => ∃ k : Nat, k ≤ len ∧ i = .int .i64 k ∧ Hid (okFrom l l 0 = okFrom l (l.drop k) k) ∧ Hid (Below w.heap.size w wr)) (fun i _ => len - (intOf i).toNat)
  case atStart => exact ⟨0, Nat.zero_le _, rfl, hide (by simp), hide (Below.refl _ _)⟩
  case round =>
    obtain ⟨k, hk, rfl, hp, HB⟩ := hrel
    by_cases hlt : k < len
    · have HR2 := hide ((unhide HR).below (unhide HB))
      obtain ⟨b, off, rfl, hq⟩ := (unhide HR2).at hlt
      have hkl : k < l.length := by have := unhide HL; omega
      have hst := hide (okFrom_step (l := l) (k := k) hkl)
      obtain ⟨c0, c1, c2, c3⟩ := hq hkl
      have hz := unhide HN l[k] (List.getElem_mem _)
      clear hq
      obtain ⟨⟨nm, pa, du, mo⟩, hs⟩ : ∃ s, l[k] = s := ⟨_, rfl⟩
      rw [hs] at c0 c1 c2 c3 hst hz
      simp only at c0 c1 c2 c3 hz
      clear hs hkl
      obtain ⟨b1, g1⟩ : ∃ b, nameOk nm = b := ⟨_, rfl⟩
      obtain ⟨p1, g2⟩ : ∃ p, place l nm = p := ⟨_, rfl⟩
      obtain ⟨p2, g3⟩ : ∃ p, place l pa = p := ⟨_, rfl⟩
      have CN := hide (fun wx => by have := specNameOk_any (bs nm) wx (by rw [bs_size]; exact hz); rw [show (bs nm).data.toList = nm by simp [bs], g1] at this; exact this)
      have RR := (unhide HR2).below (below_al (Below.refl _ wr) (.cells #[.string (bs nm), .string (bs pa), .int .i64 du, .int .i64 mo] 48))
      have CP1 := hide (by have := l03Place_any (some ⟨b, off, none⟩) len cap l nm _ RR hl; rw [g2] at this; exact this)
      have CP2 := hide (by have := l03Place_any (some ⟨b, off, none⟩) len cap l pa _ RR hl; rw [g3] at this; exact this)
      have HB2 := hide (below_al (unhide HB) (.cells #[.string (bs nm), .string (bs pa), .int .i64 du, .int .i64 mo] 48))
      have G1 := hide g1
      have G2 := hide g2
      have G3 := hide g3
      clear g1 g2 g3 RR HR2 hz
      cases b1 with
      | false =>
        go_wp2_with (first | (go_at_call 95; refine (unhide CN _).mono ?_; rintro e w' ⟨rfl, rfl⟩) | (go_at_call_of 57 nm; refine (unhide CP1).mono ?_; rintro e w' ⟨rfl, rfl⟩) | (go_at_call_of 57 pa; refine (unhide CP2).mono ?_; rintro e w' ⟨rfl, rfl⟩) | (go_at_call 96; refine (l01In_any _ _ _ _).mono ?_; rintro e w' ⟨rfl, rfl⟩))
        go_ret
        exact ⟨ret_bool (ok_no1 (by rw [unhide hp, unhide hst]; simp [qOk, unhide G1])).symm, unhide HB2⟩
      | true =>
        by_cases e2 : p1 = k
        · subst e2
          cases h3 : inB mo 0 10000
          · skip
            go_wp2_with (first | (go_at_call 95; refine (unhide CN _).mono ?_; rintro e w' ⟨rfl, rfl⟩) | (go_at_call_of 57 nm; refine (unhide CP1).mono ?_; rintro e w' ⟨rfl, rfl⟩) | (go_at_call_of 57 pa; refine (unhide CP2).mono ?_; rintro e w' ⟨rfl, rfl⟩) | (go_at_call 96; refine (l01In_any _ _ _ _).mono ?_; rintro e w' ⟨rfl, rfl⟩))
            go_ret
            exact ⟨ret_bool (ok_no1 (by rw [unhide hp, unhide hst]; simp [qOk, unhide G1, unhide G2, h3])).symm, unhide HB2⟩
          · cases h4 : inB du 0 mo
            · skip
              go_wp2_with (first | (go_at_call 95; refine (unhide CN _).mono ?_; rintro e w' ⟨rfl, rfl⟩) | (go_at_call_of 57 nm; refine (unhide CP1).mono ?_; rintro e w' ⟨rfl, rfl⟩) | (go_at_call_of 57 pa; refine (unhide CP2).mono ?_; rintro e w' ⟨rfl, rfl⟩) | (go_at_call 96; refine (l01In_any _ _ _ _).mono ?_; rintro e w' ⟨rfl, rfl⟩))
              go_ret
              exact ⟨ret_bool (ok_no1 (by rw [unhide hp, unhide hst]; simp [qOk, unhide G1, unhide G2, h3, h4])).symm, unhide HB2⟩
            · by_cases hk0 : k = 0
              · have k1 : ((k : Int) == 0) = true := by simp [hk0]
                have k2 : ¬ (0 : Int) < k := by omega
                have k3 : ¬ 0 < k := by omega
                have HK0 := hide hk0
                clear hk0
                have hbe := bs_empty pa
                by_cases e5 : pa = []
                · have E5 := hide e5
                  rw [decide_eq_true e5] at hbe
                  clear e5
                  by_cases e6 : du = 10000
                  · subst e6
                    go_wp2_with (first | (go_at_call 95; refine (unhide CN _).mono ?_; rintro e w' ⟨rfl, rfl⟩) | (go_at_call_of 57 nm; refine (unhide CP1).mono ?_; rintro e w' ⟨rfl, rfl⟩) | (go_at_call_of 57 pa; refine (unhide CP2).mono ?_; rintro e w' ⟨rfl, rfl⟩) | (go_at_call 96; refine (l01In_any _ _ _ _).mono ?_; rintro e w' ⟨rfl, rfl⟩))
                    go_roundw
                    case rel => exact ⟨k + 1, by omega, by go_num, hide (by rw [unhide hp, unhide hst]; simp [qOk, unhide G1, unhide G2, h3, h4, unhide HK0, unhide E5]), HB2⟩
                    case measure => simp [intOf]; omega
                  · have E6 := hide e6
                    have hd : (du == 10000) = false := by simp [e6]
                    clear e6
                    go_wp2_with (first | (go_at_call 95; refine (unhide CN _).mono ?_; rintro e w' ⟨rfl, rfl⟩) | (go_at_call_of 57 nm; refine (unhide CP1).mono ?_; rintro e w' ⟨rfl, rfl⟩) | (go_at_call_of 57 pa; refine (unhide CP2).mono ?_; rintro e w' ⟨rfl, rfl⟩) | (go_at_call 96; refine (l01In_any _ _ _ _).mono ?_; rintro e w' ⟨rfl, rfl⟩))
                    go_ret
                    exact ⟨ret_bool (ok_no1 (by rw [unhide hp, unhide hst]; simp [qOk, unhide G1, unhide G2, h3, h4, unhide HK0, unhide E5, unhide E6])).symm, unhide HB2⟩
                · have E5 := hide e5
                  rw [decide_eq_false e5] at hbe
                  clear e5
                  go_wp2_with (first | (go_at_call 95; refine (unhide CN _).mono ?_; rintro e w' ⟨rfl, rfl⟩) | (go_at_call_of 57 nm; refine (unhide CP1).mono ?_; rintro e w' ⟨rfl, rfl⟩) | (go_at_call_of 57 pa; refine (unhide CP2).mono ?_; rintro e w' ⟨rfl, rfl⟩) | (go_at_call 96; refine (l01In_any _ _ _ _).mono ?_; rintro e w' ⟨rfl, rfl⟩))
                  go_ret
                  exact ⟨ret_bool (ok_no1 (by rw [unhide hp, unhide hst]; simp [qOk, unhide G1, unhide G2, h3, h4, unhide HK0, unhide E5])).symm, unhide HB2⟩
              · have k1 : ((k : Int) == 0) = false := by simp [hk0]
                have k2 : (0 : Int) < k := by omega
                have k3 : 0 < k := by omega
                have HK0 := hide hk0
                clear hk0
                cases h7 : inB p2 0 ((k : Int) - 1)
                · skip
                  go_wp2_with (first | (go_at_call 95; refine (unhide CN _).mono ?_; rintro e w' ⟨rfl, rfl⟩) | (go_at_call_of 57 nm; refine (unhide CP1).mono ?_; rintro e w' ⟨rfl, rfl⟩) | (go_at_call_of 57 pa; refine (unhide CP2).mono ?_; rintro e w' ⟨rfl, rfl⟩) | (go_at_call 96; refine (l01In_any _ _ _ _).mono ?_; rintro e w' ⟨rfl, rfl⟩))
                  go_ret
                  exact ⟨ret_bool (ok_no1 (by rw [unhide hp, unhide hst]; simp [qOk, unhide G1, unhide G2, unhide G3, h3, h4, h7, unhide HK0])).symm, unhide HB2⟩
                · skip
                  go_wp2_with (first | (go_at_call 95; refine (unhide CN _).mono ?_; rintro e w' ⟨rfl, rfl⟩) | (go_at_call_of 57 nm; refine (unhide CP1).mono ?_; rintro e w' ⟨rfl, rfl⟩) | (go_at_call_of 57 pa; refine (unhide CP2).mono ?_; rintro e w' ⟨rfl, rfl⟩) | (go_at_call 96; refine (l01In_any _ _ _ _).mono ?_; rintro e w' ⟨rfl, rfl⟩))
                  go_roundw
                  case rel => exact ⟨k + 1, by omega, by go_num, hide (by rw [unhide hp, unhide hst]; simp [qOk, unhide G1, unhide G2, unhide G3, h3, h4, h7, unhide HK0]), HB2⟩
                  case measure => simp [intOf]; omega
        · have h2 : (p1 == (k : Int)) = false := by simp [e2]
          have E2 := hide e2
          clear e2
          go_wp2_with (first | (go_at_call 95; refine (unhide CN _).mono ?_; rintro e w' ⟨rfl, rfl⟩) | (go_at_call_of 57 nm; refine (unhide CP1).mono ?_; rintro e w' ⟨rfl, rfl⟩) | (go_at_call_of 57 pa; refine (unhide CP2).mono ?_; rintro e w' ⟨rfl, rfl⟩) | (go_at_call 96; refine (l01In_any _ _ _ _).mono ?_; rintro e w' ⟨rfl, rfl⟩))
          go_ret
          exact ⟨ret_bool (ok_no1 (by rw [unhide hp, unhide hst]; simp [qOk, unhide G1, unhide G2, unhide E2])).symm, unhide HB2⟩
    · have ho := hide (show okFrom l l 0 = true by rw [unhide hp]; exact okFrom_end (by have := unhide HL; omega))
      have HD := hide (okFrom_due l 0 (unhide ho))
      have HR2 := hide ((unhide HR).below (unhide HB))
      clear hp
      go_wp2
      go_loopw [5] (fun i wx => ∃ m : Nat, m ≤ len ∧ i = .int .i64 m ∧ Hid (sumsOk l l = sumsOk l (l.drop m)) ∧ wx = wr) (fun i _ => len - (intOf i).toNat)
      case atStart => exact ⟨0, Nat.zero_le _, rfl, hide (by simp), rfl⟩
      case round =>
        obtain ⟨m, hm, rfl, hp, rfl⟩ := hrel
        by_cases hlm : m < len
        · obtain ⟨b, off, rfl, hq⟩ := (unhide HR2).at hlm
          have hml : m < l.length := by have := unhide HL; omega
          have hst := hide (sumsOk_step (l := l) (k := m) hml)
          have c0 := (hq hml).1
          clear hq
          obtain ⟨nm, hs⟩ : ∃ s, l[m].name = s := ⟨_, rfl⟩
          rw [hs] at c0 hst
          obtain ⟨t, ht⟩ : ∃ t, kidsSum l nm = t := ⟨_, rfl⟩
          have CS := hide (by have := l03Sum_any (some ⟨b, off, none⟩) len cap l nm _ (unhide HR2) hl (unhide HD); rw [ht] at this; exact this)
          have HTT := hide ht
          clear hs hml ht
          by_cases hgt : 10000 < t
          · go_wp2_with (go_at_call 97; refine (unhide CS).mono ?_; rintro e w' ⟨rfl, rfl⟩)
            go_ret
            exact ⟨ret_bool (ok_no2 (by rw [unhide hp, unhide hst, unhide HTT]; simp; omega)).symm, unhide HB⟩
          · go_wp2_with (go_at_call 97; refine (unhide CS).mono ?_; rintro e w' ⟨rfl, rfl⟩)
            go_roundw
            case rel => exact ⟨m + 1, by omega, by go_num, hide (by rw [unhide hp, unhide hst, unhide HTT]; simp; omega), trivial⟩
            case measure => simp [intOf]; omega
        · have hfin := hide (ok_yes (unhide ho) (show sumsOk l l = true by rw [unhide hp]; exact sumsOk_end (by have := unhide HL; omega)))
          have HLL := unhide HL
          have hfin2 := hide (show inB (len : Int) 1 20 = queuesOk l by rw [unhide hfin, HLL])
          clear HLL
          go_wp2_with (go_at_call 96; refine (l01In_any _ _ _ _).mono ?_; rintro e w' ⟨rfl, rfl⟩)
          go_ret
          exact ⟨ret_bool (unhide hfin2), unhide HB⟩
end Go.Proofs.YtbgamlegiikggaaGreat

/-
  Whether a queue is nobody's parent: what the model's Leaf answers; a walk over the dump.
-/
namespace Go.Proofs.YtbgamlegiikggaaGreat
open Go.RowKit
set_option linter.unusedVariables false

def noKid (nm : List UInt8) : List Q → Bool
  | [] => true
  | q :: t => decide (q.parent ≠ nm) && noKid nm t
def leaf (l : List Q) (nm : List UInt8) : Bool := noKid nm l && (queuesOk l && decide (0 ≤ place l nm))
theorem noKid_step {nm : List UInt8} {l : List Q} {k : Nat} (h : k < l.length) : noKid nm (l.drop k) = (decide (l[k].parent ≠ nm) && noKid nm (l.drop (k + 1))) := by
  rw [List.drop_eq_getElem_cons h, noKid]
theorem noKid_end {nm : List UInt8} {l : List Q} {k : Nat} (h : l.length ≤ k) : noKid nm (l.drop k) = true := by
  rw [List.drop_of_length_le h]; rfl

set_option maxRecDepth 100000 in
set_option maxHeartbeats 1000000 in
theorem specLeaf_any (ao : Option Addr) (len cap : Nat) (l : List Q) (nm : List UInt8) (w : World) (h : QRow w ao len l) (hl : len ≤ 1048576) (hn : ∀ q ∈ l, q.name.length ≤ 1048576) :
    Calls Tryz.prog 20 #[.slice ao len cap, .string (bs nm)] w fun e w' => e = .returned (.bool (leaf l nm)) ∧ Below w.heap.size w w' := by
  have HR := hide h
  have HL := hide h.1
  have HN := hide hn
  clear h hn
  go_enter Tryz.func20, Tryz.ntmps20
  go_wp2
  go_loopw [5] (fun i wr => ∃ k : Nat, k ≤ len ∧ i = .int .i64 k ∧ Hid (noKid nm l = noKid nm (l.drop k)) ∧ wr = w) (fun i _ => len - (intOf i).toNat)
  case atStart => exact ⟨0, Nat.zero_le _, rfl, hide (by simp), rfl⟩
  case round =>
    obtain ⟨k, hk, rfl, hp, rfl⟩ := hrel
    by_cases hlt : k < len
    · obtain ⟨b, off, rfl, hq⟩ := (unhide HR).at hlt
      have hkl : k < l.length := by have := unhide HL; omega
      have hst := hide (noKid_step (nm := nm) (l := l) (k := k) hkl)
      have hq0 := (hq hkl).2.1
      clear hq
      obtain ⟨s, hs⟩ : ∃ s, l[k].parent = s := ⟨_, rfl⟩
      rw [hs] at hq0 hst
      have hbe := bs_eq s nm
      clear hs hkl
      by_cases he : s = nm
      · have HE := hide he
        rw [decide_eq_true he] at hbe
        clear he
        go_wp2
        go_ret
        exact ⟨ret_bool (by rw [leaf, unhide hp, unhide hst]; simp [unhide HE]), Below.refl _ _⟩
      · have HE := hide he
        rw [decide_eq_false he] at hbe
        clear he
        go_wp2
        go_roundw
        case rel => exact ⟨k + 1, by omega, by go_num, hide (by rw [unhide hp, unhide hst]; simp [unhide HE]), trivial⟩
        case measure => simp [intOf]; omega
    · have hk2 := hide (show leaf l nm = (queuesOk l && decide (0 ≤ place l nm)) by rw [leaf, unhide hp, noKid_end (by have := unhide HL; omega)]; rfl)
      have CQ := hide (specQueuesOk_any ao len cap l wr (unhide HR) hl (unhide HN))
      obtain ⟨o, ho⟩ : ∃ o, queuesOk l = o := ⟨_, rfl⟩
      obtain ⟨p, hp2⟩ : ∃ p, place l nm = p := ⟨_, rfl⟩
      rw [ho] at CQ hk2
      have CP := hide (fun wx (hb : Below wr.heap.size wr wx) => by have := l03Place_any ao len cap l nm wx ((unhide HR).below hb) hl; rw [hp2] at this; exact this)
      rw [hp2] at hk2
      clear ho hp2 hp
      go_wp2_with fail
      refine (unhide CQ).mono ?_
      rintro e w1 ⟨rfl, hb⟩
      have HB := hide hb
      clear hb CQ
      cases o with
      | false =>
        go_wp2
        go_ret
        exact ⟨ret_bool (by rw [unhide hk2]; rfl), unhide HB⟩
      | true =>
        go_wp2_with fail
        refine (unhide CP _ (unhide HB)).mono ?_
        rintro e w2 ⟨rfl, rfl⟩
        by_cases h0 : 0 ≤ p
        · go_wp2
          go_ret
          exact ⟨ret_bool (by rw [unhide hk2]; simp [h0]), unhide HB⟩
        · go_wp2
          go_ret
          exact ⟨ret_bool (by rw [unhide hk2]; simp), unhide HB⟩
end Go.Proofs.YtbgamlegiikggaaGreat

/-
  Whether a leaf has more than is due, and what a leaf lacks: in plain words.
-/
namespace Go.Proofs.YtbgamlegiikggaaGreat
open Go.RowKit
set_option linter.unusedVariables false

def dueV (s : St) (x : List UInt8) : Int × Int := ofR s.qs x (totalV s).1 (totalV s).2 false
def overV (s : St) (nm : List UInt8) : Bool := leaf s.qs nm && !within (usedByV s nm).1 (usedByV s nm).2 (dueV s nm).1 (dueV s nm).2
theorem resOk_zero : resOk 0 0 = true := by decide
theorem sumFrom_ok : ∀ (l : List (Int × Int)) (x y : Int), resOk x y = true → resOk (sumFrom l x y).1 (sumFrom l x y).2.1 = true
  | [], x, y, h => h
  | r :: t, x, y, h => by
    rw [sumFrom]
    by_cases hb : bothOk 1 x y r.1 r.2 = true
    · rw [if_pos hb]
      refine sumFrom_ok t _ _ ?_
      simp only [bothOk, Bool.and_eq_true] at hb
      exact hb.2
    · rw [if_neg hb]; exact resOk_zero
theorem sumR_ok (l : List (Int × Int)) : resOk (sumR l).1 (sumR l).2.1 = true := sumFrom_ok l 0 0 resOk_zero
theorem used_ok (s : St) (nm : List UInt8) : resOk (usedByV s nm).1 (usedByV s nm).2 = true := sumR_ok _
theorem shares_ok (a b n : Int) : resOk (shareM a b n) (shareC a b n) = true := by
  by_cases h : shareOk a b n = true
  · have e1 : shareM a b n = a * n / 10000 := by rw [shareM, if_pos h]
    have e2 : shareC a b n = b * n / 10000 := by rw [shareC, if_pos h]
    rw [e1, e2]
    simp only [shareOk, resOk, inB, Bool.and_eq_true, decide_eq_true_eq] at h ⊢
    obtain ⟨⟨⟨h1, h2⟩, h3, h4⟩, h5, h6⟩ := h
    have := mul_bd h1 h2 h5 h6
    have := mul_bd h3 h4 h5 h6
    omega
  · have e1 : shareM a b n = 0 := by rw [shareM, if_neg h]
    have e2 : shareC a b n = 0 := by rw [shareC, if_neg h]
    rw [e1, e2]; exact resOk_zero
theorem ofP_ok (l : List Q) (most : Bool) {t : Int × Int} (h : resOk t.1 t.2 = true) : ∀ p : List (List UInt8), resOk (ofP l most t p).1 (ofP l most t p).2 = true
  | [] => h
  | [_] => h
  | n :: m :: r => shares_ok _ _ _
theorem ofR_ok (l : List Q) (nm : List UInt8) (a b : Int) (most : Bool) : resOk (ofR l nm a b most).1 (ofR l nm a b most).2 = true := by
  rw [ofR]
  split
  · exact resOk_zero
  · rename_i h
    refine ofP_ok l most ?_ _
    cases hr : resOk a b
    · exact absurd (.inr hr) h
    · rfl
theorem due_ok (s : St) (nm : List UInt8) : resOk (dueV s nm).1 (dueV s nm).2 = true := ofR_ok _ _ _ _ _
end Go.Proofs.YtbgamlegiikggaaGreat
