/-
  Several texts of this claim in one: QueuesOkS, LeafS, PathM (pack.py put them together); each says in its own remark what is proved.
-/
import Derived.Test.YtcplnodfcchdhaaGreatPackL
import Derived.Deep.RegionWith
/-
  Whether queues are a tree: what the model's QueuesOk answers; a walk over the dump.
-/
namespace Go.Proofs.YtcplnodfcchdhaaGreat
open Go.RowKit
set_option linter.unusedVariables false
set_option maxRecDepth 100000 in
set_option maxHeartbeats 4000000 in
theorem specQueuesOk_any (ao : Option Addr) (len cap : Nat) (l : List Q) (w : World) (h : QRow w ao len l) (hl : len ≤ 1048576) (hn : ∀ q ∈ l, q.name.length ≤ 1048576) :
    Calls Tryz.prog 65 #[.slice ao len cap] w fun e w' => e = .returned (.bool (queuesOk l)) ∧ Below w.heap.size w w' := by
  have HR := hide h
  have HL := hide h.1
  have HN := hide hn
  clear h hn
  go_enter Tryz.func65, Tryz.ntmps65
  go_wp2
  go_loopw [3] (fun i wr => ∃ k : Nat, k ≤ len ∧ i = .int .i64 k ∧ Hid (okFrom l l 0 = okFrom l (l.drop k) k) ∧ Hid (Below w.heap.size w wr)) (fun i _ => len - (intOf i).toNat)
  case atStart => exact ⟨0, Nat.zero_le _, rfl, hide (by simp), hide (Below.refl _ _)⟩
  case round =>
    obtain ⟨k, hk, rfl, hp, HB⟩ := hrel
    by_cases hlt : k < len
    · have HR2 := hide ((unhide HR).below (unhide HB))
      obtain ⟨b, off, rfl, hq⟩ := (unhide HR2).at hlt
      have hkl : k < l.length := by have := unhide HL; omega
      have hst := hide (okFrom_step (l := l) (k := k) hkl)
      obtain ⟨c0, c1, c2, c3⟩ := hq hkl
      have hz := unhide HN l[k] (List.getElem_mem _)
      clear hq
      obtain ⟨⟨nm, pa, du, mo⟩, hs⟩ : ∃ s, l[k] = s := ⟨_, rfl⟩
      rw [hs] at c0 c1 c2 c3 hst hz
      simp only at c0 c1 c2 c3 hz
      clear hs hkl
      obtain ⟨b1, g1⟩ : ∃ b, nameOk nm = b := ⟨_, rfl⟩
      obtain ⟨p1, g2⟩ : ∃ p, place l nm = p := ⟨_, rfl⟩
      obtain ⟨p2, g3⟩ : ∃ p, place l pa = p := ⟨_, rfl⟩
      have CN := hide (fun wx => by have := specNameOk_any (bs nm) wx (by rw [bs_size]; exact hz); rw [show (bs nm).data.toList = nm by simp [bs], g1] at this; exact this)
      have RR := (unhide HR2).below (below_al (Below.refl _ wr) (.cells #[.string (bs nm), .string (bs pa), .int .i64 du, .int .i64 mo] 59))
      have CP1 := hide (by have := l03Place_any (some ⟨b, off, none⟩) len cap l nm _ RR hl; rw [g2] at this; exact this)
      have CP2 := hide (by have := l03Place_any (some ⟨b, off, none⟩) len cap l pa _ RR hl; rw [g3] at this; exact this)
      have HB2 := hide (below_al (unhide HB) (.cells #[.string (bs nm), .string (bs pa), .int .i64 du, .int .i64 mo] 59))
      have G1 := hide g1
      have G2 := hide g2
      have G3 := hide g3
      clear g1 g2 g3 RR HR2 hz
      cases b1 with
      | false =>
        go_wp2_with (first | (go_at_call 109; refine (unhide CN _).mono ?_; rintro e w' ⟨rfl, rfl⟩) | (go_at_call_of 78 nm; refine (unhide CP1).mono ?_; rintro e w' ⟨rfl, rfl⟩) | (go_at_call_of 78 pa; refine (unhide CP2).mono ?_; rintro e w' ⟨rfl, rfl⟩) | (go_at_call 66; refine (l01In_any _ _ _ _).mono ?_; rintro e w' ⟨rfl, rfl⟩))
        go_ret
        exact ⟨ret_bool (ok_no1 (by rw [unhide hp, unhide hst]; simp [qOk, unhide G1])).symm, unhide HB2⟩
      | true =>
        by_cases e2 : p1 = k
        · subst e2
          cases h3 : inB mo 0 10000
          · skip
            go_wp2_with (first | (go_at_call 109; refine (unhide CN _).mono ?_; rintro e w' ⟨rfl, rfl⟩) | (go_at_call_of 78 nm; refine (unhide CP1).mono ?_; rintro e w' ⟨rfl, rfl⟩) | (go_at_call_of 78 pa; refine (unhide CP2).mono ?_; rintro e w' ⟨rfl, rfl⟩) | (go_at_call 66; refine (l01In_any _ _ _ _).mono ?_; rintro e w' ⟨rfl, rfl⟩))
            go_ret
            exact ⟨ret_bool (ok_no1 (by rw [unhide hp, unhide hst]; simp [qOk, unhide G1, unhide G2, h3])).symm, unhide HB2⟩
          · cases h4 : inB du 0 mo
            · skip
              go_wp2_with (first | (go_at_call 109; refine (unhide CN _).mono ?_; rintro e w' ⟨rfl, rfl⟩) | (go_at_call_of 78 nm; refine (unhide CP1).mono ?_; rintro e w' ⟨rfl, rfl⟩) | (go_at_call_of 78 pa; refine (unhide CP2).mono ?_; rintro e w' ⟨rfl, rfl⟩) | (go_at_call 66; refine (l01In_any _ _ _ _).mono ?_; rintro e w' ⟨rfl, rfl⟩))
              go_ret
              exact ⟨ret_bool (ok_no1 (by rw [unhide hp, unhide hst]; simp [qOk, unhide G1, unhide G2, h3, h4])).symm, unhide HB2⟩
            · by_cases hk0 : k = 0
              · have k1 : ((k : Int) == 0) = true := by simp [hk0]
                have k2 : ¬ (0 : Int) < k := by omega
                have k3 : ¬ 0 < k := by omega
                have HK0 := hide hk0
                clear hk0
                have hbe := bs_empty pa
                by_cases e5 : pa = []
                · have E5 := hide e5
                  rw [decide_eq_true e5] at hbe
                  clear e5
                  by_cases e6 : du = 10000
                  · subst e6
                    go_wp2_with (first | (go_at_call 109; refine (unhide CN _).mono ?_; rintro e w' ⟨rfl, rfl⟩) | (go_at_call_of 78 nm; refine (unhide CP1).mono ?_; rintro e w' ⟨rfl, rfl⟩) | (go_at_call_of 78 pa; refine (unhide CP2).mono ?_; rintro e w' ⟨rfl, rfl⟩) | (go_at_call 66; refine (l01In_any _ _ _ _).mono ?_; rintro e w' ⟨rfl, rfl⟩))
                    go_roundw
                    case rel => exact ⟨k + 1, by omega, by go_num, hide (by rw [unhide hp, unhide hst]; simp [qOk, unhide G1, unhide G2, h3, h4, unhide HK0, unhide E5]), HB2⟩
                    case measure => simp [intOf]; omega
                  · have E6 := hide e6
                    have hd : (du == 10000) = false := by simp [e6]
                    clear e6
                    go_wp2_with (first | (go_at_call 109; refine (unhide CN _).mono ?_; rintro e w' ⟨rfl, rfl⟩) | (go_at_call_of 78 nm; refine (unhide CP1).mono ?_; rintro e w' ⟨rfl, rfl⟩) | (go_at_call_of 78 pa; refine (unhide CP2).mono ?_; rintro e w' ⟨rfl, rfl⟩) | (go_at_call 66; refine (l01In_any _ _ _ _).mono ?_; rintro e w' ⟨rfl, rfl⟩))
                    go_ret
                    exact ⟨ret_bool (ok_no1 (by rw [unhide hp, unhide hst]; simp [qOk, unhide G1, unhide G2, h3, h4, unhide HK0, unhide E5, unhide E6])).symm, unhide HB2⟩
                · have E5 := hide e5
                  rw [decide_eq_false e5] at hbe
                  clear e5
                  go_wp2_with (first | (go_at_call 109; refine (unhide CN _).mono ?_; rintro e w' ⟨rfl, rfl⟩) | (go_at_call_of 78 nm; refine (unhide CP1).mono ?_; rintro e w' ⟨rfl, rfl⟩) | (go_at_call_of 78 pa; refine (unhide CP2).mono ?_; rintro e w' ⟨rfl, rfl⟩) | (go_at_call 66; refine (l01In_any _ _ _ _).mono ?_; rintro e w' ⟨rfl, rfl⟩))
                  go_ret
                  exact ⟨ret_bool (ok_no1 (by rw [unhide hp, unhide hst]; simp [qOk, unhide G1, unhide G2, h3, h4, unhide HK0, unhide E5])).symm, unhide HB2⟩
              · have k1 : ((k : Int) == 0) = false := by simp [hk0]
                have k2 : (0 : Int) < k := by omega
                have k3 : 0 < k := by omega
                have HK0 := hide hk0
                clear hk0
                cases h7 : inB p2 0 ((k : Int) - 1)
                · skip
                  go_wp2_with (first | (go_at_call 109; refine (unhide CN _).mono ?_; rintro e w' ⟨rfl, rfl⟩) | (go_at_call_of 78 nm; refine (unhide CP1).mono ?_; rintro e w' ⟨rfl, rfl⟩) | (go_at_call_of 78 pa; refine (unhide CP2).mono ?_; rintro e w' ⟨rfl, rfl⟩) | (go_at_call 66; refine (l01In_any _ _ _ _).mono ?_; rintro e w' ⟨rfl, rfl⟩))
                  go_ret
                  exact ⟨ret_bool (ok_no1 (by rw [unhide hp, unhide hst]; simp [qOk, unhide G1, unhide G2, unhide G3, h3, h4, h7, unhide HK0])).symm, unhide HB2⟩
                · skip
                  go_wp2_with (first | (go_at_call 109; refine (unhide CN _).mono ?_; rintro e w' ⟨rfl, rfl⟩) | (go_at_call_of 78 nm; refine (unhide CP1).mono ?_; rintro e w' ⟨rfl, rfl⟩) | (go_at_call_of 78 pa; refine (unhide CP2).mono ?_; rintro e w' ⟨rfl, rfl⟩) | (go_at_call 66; refine (l01In_any _ _ _ _).mono ?_; rintro e w' ⟨rfl, rfl⟩))
                  go_roundw
                  case rel => exact ⟨k + 1, by omega, by go_num, hide (by rw [unhide hp, unhide hst]; simp [qOk, unhide G1, unhide G2, unhide G3, h3, h4, h7, unhide HK0]), HB2⟩
                  case measure => simp [intOf]; omega
        · have h2 : (p1 == (k : Int)) = false := by simp [e2]
          have E2 := hide e2
          clear e2
          go_wp2_with (first | (go_at_call 109; refine (unhide CN _).mono ?_; rintro e w' ⟨rfl, rfl⟩) | (go_at_call_of 78 nm; refine (unhide CP1).mono ?_; rintro e w' ⟨rfl, rfl⟩) | (go_at_call_of 78 pa; refine (unhide CP2).mono ?_; rintro e w' ⟨rfl, rfl⟩) | (go_at_call 66; refine (l01In_any _ _ _ _).mono ?_; rintro e w' ⟨rfl, rfl⟩))
          go_ret
          exact ⟨ret_bool (ok_no1 (by rw [unhide hp, unhide hst]; simp [qOk, unhide G1, unhide G2, unhide E2])).symm, unhide HB2⟩
    · have ho := hide (show okFrom l l 0 = true by rw [unhide hp]; exact okFrom_end (by have := unhide HL; omega))
      have HD := hide (okFrom_due l 0 (unhide ho))
      have HR2 := hide ((unhide HR).below (unhide HB))
      clear hp
      go_wp2
      go_loopw [5] (fun i wx => ∃ m : Nat, m ≤ len ∧ i = .int .i64 m ∧ Hid (sumsOk l l = sumsOk l (l.drop m)) ∧ wx = wr) (fun i _ => len - (intOf i).toNat)
      case atStart => exact ⟨0, Nat.zero_le _, rfl, hide (by simp), rfl⟩
      case round =>
        obtain ⟨m, hm, rfl, hp, rfl⟩ := hrel
        by_cases hlm : m < len
        · obtain ⟨b, off, rfl, hq⟩ := (unhide HR2).at hlm
          have hml : m < l.length := by have := unhide HL; omega
          have hst := hide (sumsOk_step (l := l) (k := m) hml)
          have c0 := (hq hml).1
          clear hq
          obtain ⟨nm, hs⟩ : ∃ s, l[m].name = s := ⟨_, rfl⟩
          rw [hs] at c0 hst
          obtain ⟨t, ht⟩ : ∃ t, kidsSum l nm = t := ⟨_, rfl⟩
          have CS := hide (by have := l03Sum_any (some ⟨b, off, none⟩) len cap l nm _ (unhide HR2) hl (unhide HD); rw [ht] at this; exact this)
          have HTT := hide ht
          clear hs hml ht
          by_cases hgt : 10000 < t
          · go_wp2_with (go_at_call 110; refine (unhide CS).mono ?_; rintro e w' ⟨rfl, rfl⟩)
            go_ret
            exact ⟨ret_bool (ok_no2 (by rw [unhide hp, unhide hst, unhide HTT]; simp; omega)).symm, unhide HB⟩
          · go_wp2_with (go_at_call 110; refine (unhide CS).mono ?_; rintro e w' ⟨rfl, rfl⟩)
            go_roundw
            case rel => exact ⟨m + 1, by omega, by go_num, hide (by rw [unhide hp, unhide hst, unhide HTT]; simp; omega), trivial⟩
            case measure => simp [intOf]; omega
        · have hfin := hide (ok_yes (unhide ho) (show sumsOk l l = true by rw [unhide hp]; exact sumsOk_end (by have := unhide HL; omega)))
          have HLL := unhide HL
          have hfin2 := hide (show inB (len : Int) 1 20 = queuesOk l by rw [unhide hfin, HLL])
          clear HLL
          go_wp2_with (go_at_call 66; refine (l01In_any _ _ _ _).mono ?_; rintro e w' ⟨rfl, rfl⟩)
          go_ret
          exact ⟨ret_bool (unhide hfin2), unhide HB⟩
end Go.Proofs.YtcplnodfcchdhaaGreat

/-
  Whether a queue is nobody's parent: what the model's Leaf answers; a walk over the dump.
-/
namespace Go.Proofs.YtcplnodfcchdhaaGreat
open Go.RowKit
set_option linter.unusedVariables false
def noKid (nm : List UInt8) : List Q → Bool
  | [] => true
  | q :: t => decide (q.parent ≠ nm) && noKid nm t
def leaf (l : List Q) (nm : List UInt8) : Bool := noKid nm l && (queuesOk l && decide (0 ≤ place l nm))
theorem noKid_step {nm : List UInt8} {l : List Q} {k : Nat} (h : k < l.length) : noKid nm (l.drop k) = (decide (l[k].parent ≠ nm) && noKid nm (l.drop (k + 1))) := by
  rw [List.drop_eq_getElem_cons h, noKid]
theorem noKid_end {nm : List UInt8} {l : List Q} {k : Nat} (h : l.length ≤ k) : noKid nm (l.drop k) = true := by
  rw [List.drop_of_length_le h]; rfl

set_option maxRecDepth 100000 in
set_option maxHeartbeats 1000000 in
theorem specLeaf_any (ao : Option Addr) (len cap : Nat) (l : List Q) (nm : List UInt8) (w : World) (h : QRow w ao len l) (hl : len ≤ 1048576) (hn : ∀ q ∈ l, q.name.length ≤ 1048576) :
    Calls Tryz.prog 31 #[.slice ao len cap, .string (bs nm)] w fun e w' => e = .returned (.bool (leaf l nm)) ∧ Below w.heap.size w w' := by
  have HR := hide h
  have HL := hide h.1
  have HN := hide hn
  clear h hn
  go_enter Tryz.func31, Tryz.ntmps31
  go_wp2
  go_loopw [5] (fun i wr => ∃ k : Nat, k ≤ len ∧ i = .int .i64 k ∧ Hid (noKid nm l = noKid nm (l.drop k)) ∧ wr = w) (fun i _ => len - (intOf i).toNat)
  case atStart => exact ⟨0, Nat.zero_le _, rfl, hide (by simp), rfl⟩
  case round =>
    obtain ⟨k, hk, rfl, hp, rfl⟩ := hrel
    by_cases hlt : k < len
    · obtain ⟨b, off, rfl, hq⟩ := (unhide HR).at hlt
      have hkl : k < l.length := by have := unhide HL; omega
      have hst := hide (noKid_step (nm := nm) (l := l) (k := k) hkl)
      have hq0 := (hq hkl).2.1
      clear hq
      obtain ⟨s, hs⟩ : ∃ s, l[k].parent = s := ⟨_, rfl⟩
      rw [hs] at hq0 hst
      have hbe := bs_eq s nm
      clear hs hkl
      by_cases he : s = nm
      · have HE := hide he
        rw [decide_eq_true he] at hbe
        clear he
        go_wp2
        go_ret
        exact ⟨ret_bool (by rw [leaf, unhide hp, unhide hst]; simp [unhide HE]), Below.refl _ _⟩
      · have HE := hide he
        rw [decide_eq_false he] at hbe
        clear he
        go_wp2
        go_roundw
        case rel => exact ⟨k + 1, by omega, by go_num, hide (by rw [unhide hp, unhide hst]; simp [unhide HE]), trivial⟩
        case measure => simp [intOf]; omega
    · have hk2 := hide (show leaf l nm = (queuesOk l && decide (0 ≤ place l nm)) by rw [leaf, unhide hp, noKid_end (by have := unhide HL; omega)]; rfl)
      have CQ := hide (specQueuesOk_any ao len cap l wr (unhide HR) hl (unhide HN))
      obtain ⟨o, ho⟩ : ∃ o, queuesOk l = o := ⟨_, rfl⟩
      obtain ⟨p, hp2⟩ : ∃ p, place l nm = p := ⟨_, rfl⟩
      rw [ho] at CQ hk2
      have CP := hide (fun wx (hb : Below wr.heap.size wr wx) => by have := l03Place_any ao len cap l nm wx ((unhide HR).below hb) hl; rw [hp2] at this; exact this)
      rw [hp2] at hk2
      clear ho hp2 hp
      go_wp2_with fail
      refine (unhide CQ).mono ?_
      rintro e w1 ⟨rfl, hb⟩
      have HB := hide hb
      clear hb CQ
      cases o with
      | false =>
        go_wp2
        go_ret
        exact ⟨ret_bool (by rw [unhide hk2]; rfl), unhide HB⟩
      | true =>
        go_wp2_with fail
        refine (unhide CP _ (unhide HB)).mono ?_
        rintro e w2 ⟨rfl, rfl⟩
        by_cases h0 : 0 ≤ p
        · go_wp2
          go_ret
          exact ⟨ret_bool (by rw [unhide hk2]; simp [h0]), unhide HB⟩
        · go_wp2
          go_ret
          exact ⟨ret_bool (by rw [unhide hk2]; simp), unhide HB⟩
end Go.Proofs.YtcplnodfcchdhaaGreat

/-
  The queue, its parent, and so on up to the first one: in plain words.
-/
namespace Go.Proofs.YtcplnodfcchdhaaGreat
open Go.RowKit
set_option linter.unusedVariables false
theorem placeFrom_range (nm : List UInt8) : ∀ (l : List Q) (k : Nat), placeFrom nm l k = -1 ∨ ((k : Int) ≤ placeFrom nm l k ∧ placeFrom nm l k < k + l.length)
  | [], _ => .inl rfl
  | q :: t, k => by
    rw [placeFrom]
    split
    · right; simp; omega
    · rcases placeFrom_range nm t (k + 1) with h | h
      · exact .inl h
      · right; simp; omega
theorem place_range (l : List Q) (nm : List UInt8) : place l nm = -1 ∨ (0 ≤ place l nm ∧ place l nm < l.length) := by
  rcases placeFrom_range nm l 0 with h | h
  · exact .inl h
  · right; unfold place; simp at h; omega
theorem placeFrom_none {nm : List UInt8} : ∀ {l : List Q} {k : Nat}, (∀ q ∈ l, q.name ≠ nm) → placeFrom nm l k = -1
  | [], _, _ => rfl
  | q :: t, k, h => by
    rw [placeFrom, if_neg (h q (by simp))]
    exact placeFrom_none (fun x hx => h x (by simp [hx]))
theorem okFrom_at {l : List Q} : ∀ (m : List Q) (k : Nat), okFrom l m k = true → ∀ i (h : i < m.length), qOk l (k + i) m[i] = true
  | [], _, _, i, h => by simp at h
  | x :: t, k, ho, i, h => by
    rw [okFrom, Bool.and_eq_true] at ho
    cases i with
    | zero => simpa using ho.1
    | succ j =>
      have := okFrom_at t (k + 1) ho.2 j (by simpa using h)
      rw [show k + 1 + j = k + (j + 1) by omega] at this
      simpa using this
theorem ok_at {l : List Q} (h : queuesOk l = true) (i : Nat) (hi : i < l.length) : qOk l i l[i] = true := by
  have h1 : okFrom l l 0 = true := by simp only [queuesOk, Bool.and_eq_true] at h; exact h.1.1
  have := okFrom_at l 0 h1 i hi
  simpa using this
theorem ok_named {l : List Q} (h : queuesOk l = true) : ∀ q ∈ l, q.name ≠ [] := fun q hq e => by
  obtain ⟨i, hi, rfl⟩ := List.mem_iff_getElem.1 hq
  have := ok_at h i hi
  simp [qOk, nameOk, e, inB] at this
/-- whoever's parent stands ahead of it -/
theorem parent_ahead {l : List Q} (h : queuesOk l = true) {i : Nat} (hi : i < l.length) : place l l[i].parent < i := by
  have h1 := ok_at h i hi
  simp only [qOk, Bool.and_eq_true] at h1
  have h2 := h1.2
  by_cases h0 : i = 0
  · rw [if_pos h0] at h2
    simp only [Bool.and_eq_true, decide_eq_true_eq] at h2
    rw [h2.1]
    have : place l [] = -1 := placeFrom_none (ok_named h)
    omega
  · rw [if_neg h0] at h2
    simp only [inB, decide_eq_true_eq] at h2
    omega
/-- from place p on, up to the first one, in at most n steps -/
def pathAt (l : List Q) : Nat → Int → List (List UInt8)
  | 0, _ => []
  | n + 1, p => if h : 0 ≤ p ∧ p.toNat < l.length then l[p.toNat].name :: pathAt l n (place l l[p.toNat].parent) else []
def path (l : List Q) (nm : List UInt8) : List (List UInt8) := if queuesOk l then pathAt l (l.length + 1) (place l nm) else []
theorem pathAt_more {l : List Q} (h : queuesOk l = true) : ∀ (n m : Nat) (p : Int), p < n → p < m → pathAt l n p = pathAt l m p
  | 0, 0, _, _, _ => rfl
  | 0, m + 1, p, h1, h2 => by rw [pathAt, pathAt, dif_neg (by omega)]
  | n + 1, 0, p, h1, h2 => by rw [pathAt, pathAt, dif_neg (by omega)]
  | n + 1, m + 1, p, h1, h2 => by
    rw [pathAt, pathAt]
    split
    · rename_i hp
      have := parent_ahead h hp.2
      rw [pathAt_more h n m _ (by omega) (by omega)]
    · rfl
theorem path_step {l : List Q} (h : queuesOk l = true) {k n : Nat} (hk : k < l.length) (hn : k < n) : pathAt l n k = l[k].name :: pathAt l n (place l l[k].parent) := by
  cases n with
  | zero => omega
  | succ n =>
    have hp := parent_ahead h hk
    rw [pathAt, dif_pos (by simp; exact hk)]
    simp only [Int.toNat_natCast]
    rw [pathAt_more h n (n + 1) _ (by omega) (by omega)]
theorem path_end {l : List Q} {n : Nat} {p : Int} (hp : p < 0) : pathAt l n p = [] := by
  cases n with
  | zero => rfl
  | succ n => rw [pathAt, dif_neg (by omega)]
end Go.Proofs.YtcplnodfcchdhaaGreat
