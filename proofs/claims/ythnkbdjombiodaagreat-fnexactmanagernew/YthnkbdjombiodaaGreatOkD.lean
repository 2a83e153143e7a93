/-
  The machines of a state are right: machinesOk, by the program; a walk over the dump.
-/
import Derived.Test.YthnkbdjombiodaaGreatOkC
import Derived.Test.YthnkbdjombiodaaGreatPackG
namespace Go.Proofs.YthnkbdjombiodaaGreat
open Go.RowKit
set_option linter.unusedVariables false

/-- a text that is no more than another, by its bytes -/
def leT (a b : List UInt8) : Bool := Op.bytesLess (bs a).toList (bs b).toList || ((bs a).toList == (bs b).toList)
def machsFrom (ck : Int) : List UInt8 → List Mac → Bool
  | _, [] => true
  | last, m :: t => !leT m.name last && (nameOk m.name && (decide (0 ≤ m.seen) && (decide (m.seen ≤ ck) && machsFrom ck m.name t)))
def machsOkV (s : St) : Bool := decide (s.ms.length ≤ 20) && (machsFrom s.clock [] s.ms && (sumR (capsOf s.ms)).2.2)
theorem machsFrom_step {ck : Int} {last : List UInt8} {l : List Mac} {k : Nat} (h : k < l.length) : machsFrom ck last (l.drop k) = (!leT l[k].name last && (nameOk l[k].name && (decide (0 ≤ l[k].seen) && (decide (l[k].seen ≤ ck) && machsFrom ck l[k].name (l.drop (k + 1)))))) := by
  rw [List.drop_eq_getElem_cons h, machsFrom]
theorem machsFrom_end {ck : Int} {last : List UInt8} {l : List Mac} {k : Nat} (h : l.length ≤ k) : machsFrom ck last (l.drop k) = true := by
  rw [List.drop_of_length_le h]; rfl

set_option maxRecDepth 100000 in
set_option maxHeartbeats 4000000 in
theorem machinesOk_any (x : Sls) (s : St) (w : World) (h : SRow w x s) (hf : FitSt s) :
    Calls Tryz.prog 51 #[sv x s] w fun e w' => e = .returned (.bool (machsOkV s)) ∧ Below w.heap.size w w' := by
  have hml : x.ml ≤ 1048576 := by have := h.len.2.2.1; have := hf.2.2.1.1; omega
  have HR := hide h.2.2.1
  have HL := hide h.2.2.1.1
  have HFM := hide hf.2.2.1
  obtain ⟨⟨cx, cy, co⟩, hco⟩ : ∃ r, sumR (capsOf s.ms) = r := ⟨_, rfl⟩
  have CC := hide (fun wx (hb : Below w.heap.size w wx) => by have := caps_any x s wx (h.2.2.1.below hb) hml; rw [hco] at this; exact this)
  have HS := hide (show machsOkV s = (decide (x.ml ≤ 20) && (machsFrom s.clock [] s.ms && co)) by rw [machsOkV, ← h.2.2.1.1, hco])
  obtain ⟨o, ho⟩ : ∃ o, machsOkV s = o := ⟨_, rfl⟩
  rw [ho] at HS ⊢
  clear h hf ho hco
  have hb0 := below_al (Below.refl _ w) (.cells (svc x s) 29)
  have P0 := hide (blk_new w (svc x s) 29)
  obtain ⟨qa, ql, qc, aa, al, ac, ma, ml, mc, ca, cl, cc⟩ := x
  obtain ⟨qs, clock, epoch, next, serial, apps, ms, cs⟩ := s
  simp only at hml HR HL HFM CC HS P0 hb0
  have HB0 := hide hb0
  clear hb0
  by_cases h40 : ml ≤ 20
  case neg =>
    have hi : (20 : Int) < ml := by omega
    rw [decide_eq_false h40] at HS
    go_enter Tryz.func51, Tryz.ntmps51
    go_wp2
    go_ret
    exact ⟨ret_bool (by rw [unhide HS]; simp), unhide HB0⟩
  have hi : ¬ (20 : Int) < ml := by omega
  rw [decide_eq_true h40, Bool.true_and] at HS
  clear h40
  go_enter Tryz.func51, Tryz.ntmps51
  go_wp2
  go_loopw [3, 15] (fun la i wr => ∃ (k : Nat) (last : List UInt8), k ≤ ml ∧ i = .int .i64 k ∧ la = .string (bs last) ∧ Hid (o = (machsFrom clock last (ms.drop k) && co)) ∧ Hid (Blk wr w.heap.size (svc ⟨qa, ql, qc, aa, al, ac, ma, ml, mc, ca, cl, cc⟩ ⟨qs, clock, epoch, next, serial, apps, ms, cs⟩) 29) ∧ Hid (Below w.heap.size w wr)) (fun _ i _ => ml - (intOf i).toNat)
  case atStart => exact ⟨0, [], Nat.zero_le _, rfl, rfl, hide (by rw [unhide HS]; simp), P0, HB0⟩
  case round =>
    obtain ⟨k, last, hk, rfl, rfl, HO, P1, HB⟩ := hrel
    clear P0 HB0 HS
    by_cases hlt : k < ml
    · obtain ⟨b, off, rfl, hq⟩ := ((unhide HR).below (unhide HB)).at hlt
      have hkl : k < ms.length := by have := unhide HL; omega
      have hst := hide (machsFrom_step (ck := clock) (last := last) (l := ms) (k := k) hkl)
      have hfa := (unhide HFM).2 _ (List.getElem_mem hkl)
      obtain ⟨c0, c1, c2, c3⟩ := hq hkl
      obtain ⟨⟨nm, me, cp, se⟩, hs⟩ : ∃ s, ms[k] = s := ⟨_, rfl⟩
      rw [hs] at c0 c1 c2 c3 hst hfa
      simp only at c0 c1 c2 c3 hst hfa
      obtain ⟨no, hno⟩ : ∃ b, nameOk nm = b := ⟨_, rfl⟩
      have C1 := hide (fun wx => by have := implNameOk_any (bs nm) wx (by rw [bs_size]; exact hfa); rw [show nameOk (bs nm).data.toList = no by rw [← hno]; simp [bs]] at this; exact this)
      obtain ⟨l1, hl1⟩ : ∃ b, Op.bytesLess (bs nm).toList (bs last).toList = b := ⟨_, rfl⟩
      obtain ⟨l2, hl2⟩ : ∃ b, ((bs nm).toList == (bs last).toList) = b := ⟨_, rfl⟩
      have hst2 := hide (show machsFrom clock last (ms.drop k) = (!(l1 || l2) && (no && (decide (0 ≤ se) && (decide (se ≤ clock) && machsFrom clock nm (ms.drop (k + 1)))))) by rw [unhide hst, leT, hl1, hl2, hno])
      have hb2 := below_al (Below.refl _ wr) (.cells #[.string (bs nm), .int .i64 me, .int .i64 cp, .int .i64 se] 84)
      have P2 := hide ((unhide P1).below hb2)
      have HB2 := hide (below_on (unhide HB) hb2)
      have p1 := (unhide P2).at 1
      simp at p1
      clear hq hs hkl hfa hb2 hno hst CC
      cases l1 <;> cases l2
      case false.false =>
        go_wp2_with fail
        refine (unhide C1 _).mono ?_
        rintro e w1 ⟨rfl, rfl⟩
        cases no with
        | false =>
          go_wp2
          go_ret
          exact ⟨ret_bool (by rw [unhide HO, unhide hst2]; simp), unhide HB2⟩
        | true =>
        by_cases h1 : 0 ≤ se
        case neg =>
          have h1' : se < 0 := by omega
          go_wp2
          go_ret
          exact ⟨ret_bool (by rw [unhide HO, unhide hst2, decide_eq_false (show ¬ 0 ≤ se by omega)]; simp), unhide HB2⟩
        by_cases h2 : se ≤ clock
        case neg =>
          have h1' : ¬ se < 0 := by omega
          have h2' : clock < se := by omega
          go_wp2
          go_ret
          exact ⟨ret_bool (by rw [unhide HO, unhide hst2, decide_eq_false (show ¬ se ≤ clock by omega)]; simp), unhide HB2⟩
        have h1' : ¬ se < 0 := by omega
        have h2' : ¬ clock < se := by omega
        have HO2 := hide (show o = (machsFrom clock nm (ms.drop (k + 1)) && co) by rw [unhide HO, unhide hst2, decide_eq_true h1, decide_eq_true h2]; simp)
        go_wp2
        go_roundw
        case rel => exact ⟨k + 1, nm, by omega, by go_num, rfl, HO2, P2, HB2⟩
        case measure => simp [intOf]; omega
      all_goals
        go_wp2
        go_ret
        exact ⟨ret_bool (by rw [unhide HO, unhide hst2]; simp), unhide HB2⟩
    · have HO2 := hide (show o = co by rw [unhide HO, machsFrom_end (by have := unhide HL; omega)]; simp)
      have p0 := (unhide P1).at 0; have p1 := (unhide P1).at 1; have p2 := (unhide P1).at 2; have p3 := (unhide P1).at 3
      have p4 := (unhide P1).at 4; have p5 := (unhide P1).at 5; have p6 := (unhide P1).at 6; have p7 := (unhide P1).at 7
      simp at p0 p1 p2 p3 p4 p5 p6 p7
      go_wp2_with fail
      refine (unhide CC _ (unhide HB)).mono ?_
      rintro e w1 ⟨rfl, hb⟩
      have HB2 := hide (below_al (below_on (unhide HB) hb) (.cells #[.int .i64 cx, .int .i64 cy] 71))
      clear hb CC
      go_wp2
      go_ret
      exact ⟨ret_bool (by rw [unhide HO2]), unhide HB2⟩
end Go.Proofs.YthnkbdjombiodaaGreat
