/-
  The text of queues: what the model's QueuesText answers; a walk over the dump.
-/
import Derived.Test.YtebaejokhpdbkaaGreatDoorPackC
import Derived.Test.YtebaejokhpdbkaaGreatDoorQueuesOkS
import Derived.Test.YtebaejokhpdbkaaGreatDoorDec
import Derived.Deep.RegionWith
import Derived.Deep.RegionHeld3
namespace Go.Proofs.YtebaejokhpdbkaaGreatDoor
open Go.RowKit
set_option linter.unusedVariables false

/-- a queue stands at a place, and nothing of w0 has turned -/
def QA (w0 : World) (b p : Nat) (q : Q) (w : World) : Prop := QAt w b p q ∧ Below w0.heap.size w0 w
theorem QA.call {w0 w w' : World} {b p : Nat} {q : Q} (h : QA w0 b p q w) (hb : Below w.heap.size w w') : QA w0 b p q w' := ⟨h.1.below hb, below_on h.2 hb⟩
theorem QA.drew {w0 w : World} {b p : Nat} {q : Q} (h : QA w0 b p q w) : QA w0 b p q w.drew := h.call (Below.refl _ _).drew
theorem QA.read (w0 : World) (b p : Nat) (q : Q) : ∀ wx, QA w0 b p q wx → wx.cell? ⟨b, p, none⟩ = some (.string (bs q.name)) ∧ wx.cell? ⟨b, p + 1, none⟩ = some (.string (bs q.parent)) ∧ wx.cell? ⟨b, p + 2, none⟩ = some (.int .i64 q.due) ∧ wx.cell? ⟨b, p + 3, none⟩ = some (.int .i64 q.most) := fun wx h => ⟨h.1.1, h.1.2.1, h.1.2.2.1, h.1.2.2.2⟩

set_option maxRecDepth 100000 in
set_option maxHeartbeats 4000000 in
theorem specQueuesText_any (ao : Option Addr) (len cap : Nat) (l : List Q) (w : World) (h : QRow w ao len l) (hl : len ≤ 1048576) (hn : ∀ q ∈ l, q.name.length ≤ 1048576) :
    Calls Tryz.prog 15 #[.slice ao len cap] w fun e w' => e = .returned (.string (bs (qtext l))) ∧ Below w.heap.size w w' := by
  have HR := hide h
  have HL := hide h.1
  have CQ := hide (fun wx (hb : Below w.heap.size w wx) => specQueuesOk_any ao len cap l wx (h.below hb) hl hn)
  have HQ := hide (show qtext l = if queuesOk l then textL l else [] from rfl)
  have HF := hide (fun ho : queuesOk l = true => ok_fields ho)
  have HT := hide (fun ho : queuesOk l = true => textL_len ho)
  have HN := hide (fun ho : queuesOk l = true => ok_len ho)
  obtain ⟨o, ho⟩ : ∃ o, queuesOk l = o := ⟨_, rfl⟩
  rw [ho] at CQ HQ HF HT HN
  obtain ⟨r, hr⟩ : ∃ r, qtext l = r := ⟨_, rfl⟩
  rw [hr] at HQ ⊢
  clear h hn ho hr
  go_enter Tryz.func15, Tryz.ntmps15
  go_wp2
  go_loopw [3, 4, 5] (fun s i _ wr => ∃ (k : Nat) (t : List UInt8), k ≤ len ∧ i = .int .i64 k ∧ s = .string (bs t) ∧ Hid (t = textL (l.take k)) ∧ Hid (o = false → k = 0) ∧ Hid (Below w.heap.size w wr)) (fun _ i _ _ => len - (intOf i).toNat)
  case atStart => exact ⟨0, [], Nat.zero_le _, rfl, rfl, hide (by simp [textL]), hide (fun _ => rfl), hide (Below.refl _ _)⟩
  case round =>
    obtain ⟨k, t, hk, rfl, rfl, HTX, HZ, HB⟩ := hrel
    by_cases hlt : k < len
    · cases o with
      | false =>
        go_wp2_with (go_at_call 17; refine (unhide CQ _ (unhide HB)).mono ?_; rintro e w1 ⟨rfl, hb⟩)
        go_ret
        have hz := unhide HZ (by first | rfl | trivial)
        exact ⟨by rw [unhide HQ, unhide HTX, hz]; simp [textL], below_on (unhide HB) hb⟩
      | true =>
        have hkl : k < l.length := by have := unhide HL; omega
        have hf := unhide HF (by first | rfl | trivial) l[k] (List.getElem_mem _)
        have htl := unhide HT (by first | rfl | trivial) k (by omega)
        have hl20 := unhide HN (by first | rfl | trivial)
        rw [← unhide HTX] at htl
        have hst := textL_step hkl
        rw [← unhide HTX] at hst
        have CQk := hide (unhide CQ _ (unhide HB))
        clear HTX HZ
        go_wp2_with fail
        refine (unhide CQk).mono ?_
        rintro e w1 ⟨rfl, hb⟩
        have HB1 := hide (below_on (unhide HB) hb)
        obtain ⟨b, off, rfl, hq⟩ := ((unhide HR).below (unhide HB1)).at hlt
        obtain ⟨c0, c1, c2, c3⟩ := hq hkl
        have HQA := hide (hq hkl)
        clear hq hb HB CQk
        have hpar : par l[k] = if l[k].parent = [] then [45] else l[k].parent := rfl
        obtain ⟨q, hs⟩ : ∃ s, l[k] = s := ⟨_, rfl⟩
        rw [hs] at c0 c1 c2 c3 hf hst hpar HQA
        have hte := text_eq t q
        have hl1 := itoa_len hf.2.2.1 hf.2.2.2.1
        have hl2 := itoa_len hf.2.2.2.2.1 hf.2.2.2.2.2
        have D1 := hide (fun wx => specDecText_any q.due wx (by omega) (by omega))
        have D2 := hide (fun wx => specDecText_any q.most wx (by omega) (by omega))
        have hbe := bs_empty q.parent
        have z0 : (bs t).size ≤ 2000 := by rw [bs_size]; omega
        have z1 : (bs q.name).size ≤ 10 := by rw [bs_size]; omega
        have z2 : (bs (par q)).size ≤ 10 := by rw [bs_size]; omega
        have z3 : (bs (Lib.itoa q.due)).size ≤ 21 := by rw [bs_size]; omega
        have z4 : (bs (Lib.itoa q.most)).size ≤ 21 := by rw [bs_size]; omega
        rw [← hst] at hte
        have HP := hide hpar
        obtain ⟨t', ht'⟩ : ∃ t', textL (l.take (k + 1)) = t' := ⟨_, rfl⟩
        rw [ht'] at hte
        obtain ⟨s0, e0⟩ : ∃ s, bs t = s := ⟨_, rfl⟩
        obtain ⟨s1, e1⟩ : ∃ s, bs q.name = s := ⟨_, rfl⟩
        obtain ⟨s2, e2⟩ : ∃ s, bs (par q) = s := ⟨_, rfl⟩
        obtain ⟨s3, e3⟩ : ∃ s, bs (Lib.itoa q.due) = s := ⟨_, rfl⟩
        obtain ⟨s4, e4⟩ : ∃ s, bs (Lib.itoa q.most) = s := ⟨_, rfl⟩
        obtain ⟨d, ed⟩ : ∃ d, q.due = d := ⟨_, rfl⟩
        obtain ⟨m, em⟩ : ∃ m, q.most = m := ⟨_, rfl⟩
        rw [e0, e1, e2, e3, e4] at hte
        rw [e0] at z0 ⊢
        rw [e1] at z1 c0
        rw [e2] at z2
        rw [e3] at z3 D1
        rw [e4] at z4 D2
        rw [ed] at D1 c2
        rw [em] at D2 c3
        have n1 : ¬ 9223372036854775807 < s0.size + s1.size := by omega
        have n2 : ¬ 9223372036854775807 < s0.size + s1.size + 1 := by omega
        have n3 : ¬ 9223372036854775807 < s0.size + s1.size + 1 + s2.size := by omega
        have n4 : ¬ 9223372036854775807 < s0.size + s1.size + 1 + s2.size + 1 := by omega
        have n5 : ¬ 9223372036854775807 < s0.size + s1.size + 1 + s2.size + 1 + s3.size := by omega
        have n6 : ¬ 9223372036854775807 < s0.size + s1.size + 1 + s2.size + 1 + s3.size + 1 := by omega
        have n7 : ¬ 9223372036854775807 < s0.size + s1.size + 1 + s2.size + 1 + s3.size + 1 + s4.size := by omega
        have n8 : ¬ 9223372036854775807 < s0.size + s1.size + 1 + s2.size + 1 + s3.size + 1 + s4.size + 1 := by omega
        have k0 : (0 : Int) ≤ k := by omega
        have k1 : (k : Int) < len := by omega
        have R := QA.read w b (off + k * 4) q
        have A0 := hide (show QA w b (off + k * 4) q w1 from ⟨unhide HQA, unhide HB1⟩)
        rw [e1, ed, em] at R
        have HTE := hide hte
        have HT' := hide ht'
        have E2 := hide e2
        clear hte ht' hst hf htl hl1 hl2 hs hpar e0 e1 e2 e3 e4 ed em hkl
        by_cases hz : q.parent = []
        · rw [decide_eq_true hz] at hbe
          have e5 : s2 = ⟨#[45]⟩ := by rw [← unhide E2, unhide HP, if_pos hz]; rfl
          subst e5
          have m1 : ¬ 9223372036854775807 < s0.size + s1.size + 1 + 1 := by omega
          have m2 : ¬ 9223372036854775807 < s0.size + s1.size + 2 := by omega
          have m3 : ¬ 9223372036854775807 < s0.size + s1.size + 1 + 1 + 1 := by omega
          have m4 : ¬ 9223372036854775807 < s0.size + s1.size + 3 := by omega
          have m5 : ¬ 9223372036854775807 < s0.size + s1.size + 1 + 1 + 1 + s3.size := by omega
          have m6 : ¬ 9223372036854775807 < s0.size + s1.size + 3 + s3.size := by omega
          have m7 : ¬ 9223372036854775807 < s0.size + s1.size + 1 + 1 + 1 + s3.size + 1 := by omega
          have m8 : ¬ 9223372036854775807 < s0.size + s1.size + 3 + s3.size + 1 := by omega
          have m9 : ¬ 9223372036854775807 < s0.size + s1.size + 1 + 1 + 1 + s3.size + 1 + s4.size := by omega
          have m10 : ¬ 9223372036854775807 < s0.size + s1.size + 3 + s3.size + 1 + s4.size := by omega
          have m11 : ¬ 9223372036854775807 < s0.size + s1.size + 1 + 1 + 1 + s3.size + 1 + s4.size + 1 := by omega
          have m12 : ¬ 9223372036854775807 < s0.size + s1.size + 3 + s3.size + 1 + s4.size + 1 := by omega
          clear hz z2
          go_wp2_with fail
          go_region_held3 (fun wx => QA w b (off + k * 4) q wx)
            (first | (with_reducible assumption) | exact (unhide A0).drew)
            (first
            | (go_at_call_of 33 d; refine (unhide D1 _).mono ?_; rintro e w' ⟨rfl, rfl⟩)
            | (go_at_call_of 33 m; refine (unhide D2 _).mono ?_; rintro e w' ⟨rfl, rfl⟩))
          go_wp2
          go_roundw
          case rel => exact ⟨k + 1, t', by omega, by go_num, by rw [unhide HTE], hide (unhide HT').symm, hide (fun e => by cases e), hide (unhide HB1).drew⟩
          case measure => simp [intOf]; omega
        · rw [decide_eq_false hz] at hbe
          have e5 : bs q.parent = s2 := by rw [← unhide E2, unhide HP, if_neg hz]
          rw [e5] at c1 hbe
          clear hz z2 e5
          go_wp2_with fail
          go_region_held3 (fun wx => QA w b (off + k * 4) q wx)
            (first | (with_reducible assumption) | exact (unhide A0).drew)
            (first
            | (go_at_call_of 33 d; refine (unhide D1 _).mono ?_; rintro e w' ⟨rfl, rfl⟩)
            | (go_at_call_of 33 m; refine (unhide D2 _).mono ?_; rintro e w' ⟨rfl, rfl⟩))
          go_wp2
          go_roundw
          case rel => exact ⟨k + 1, t', by omega, by go_num, by rw [unhide HTE], hide (unhide HT').symm, hide (fun e => by cases e), hide (unhide HB1).drew⟩
          case measure => simp [intOf]; omega
    · have hfin := hide (show t = r by
        rw [unhide HTX, unhide HQ]
        have e : k = l.length := by have := unhide HL; omega
        cases o with
        | true => rw [e, List.take_length]; rfl
        | false => rw [unhide HZ rfl]; simp [textL])
      go_wp2
      go_ret
      exact ⟨by have e := unhide hfin; subst e; rfl, unhide HB⟩
end Go.Proofs.YtebaejokhpdbkaaGreatDoor
