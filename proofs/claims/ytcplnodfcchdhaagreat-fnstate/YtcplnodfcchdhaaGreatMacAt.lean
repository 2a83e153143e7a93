/-
  Where a machine of a name is, in plain words and by the model: l04Machine; a walk over the dump.
-/
import Derived.Test.YtcplnodfcchdhaaGreatPackS
import Derived.Test.YtcplnodfcchdhaaGreatPackL
namespace Go.Proofs.YtcplnodfcchdhaaGreat
open Go.RowKit Go.Maps
set_option linter.unusedVariables false
/-- the place of the first machine of that name, from place k on; -1 where there is none -/
def macFrom (nm : List UInt8) : List Mac → Nat → Int
  | [], _ => -1
  | q :: t, k => if q.name = nm then k else macFrom nm t (k + 1)
def macAt (l : List Mac) (nm : List UInt8) : Int := macFrom nm l 0
theorem macFrom_step {nm : List UInt8} {l : List Mac} {k : Nat} (h : k < l.length) : macFrom nm (l.drop k) k = if l[k].name = nm then (k : Int) else macFrom nm (l.drop (k + 1)) (k + 1) := by
  rw [List.drop_eq_getElem_cons h, macFrom]
theorem macFrom_end {nm : List UInt8} {l : List Mac} {k : Nat} (h : l.length ≤ k) : macFrom nm (l.drop k) k = -1 := by
  rw [List.drop_of_length_le h]; rfl
theorem macFrom_find (nm : List UInt8) : ∀ (l : List Mac) (k : Nat), (findM nm l = none ∧ macFrom nm l k = -1) ∨ (∃ (j : Nat) (h : j < l.length), findM nm l = some l[j] ∧ macFrom nm l k = ((k + j : Nat) : Int))
  | [], k => .inl ⟨rfl, rfl⟩
  | q :: t, k => by
    by_cases h : q.name = nm
    · right
      exact ⟨0, by simp, by simp [findM, h], by rw [macFrom, if_pos h]; simp⟩
    · have hf : findM nm (q :: t) = findM nm t := by simp [findM, h]
      rw [hf, macFrom, if_neg h]
      rcases macFrom_find nm t (k + 1) with ⟨a, b⟩ | ⟨j, hj, a, b⟩
      · exact .inl ⟨a, b⟩
      · exact .inr ⟨j + 1, by simpa using hj, by simpa using a, by rw [b]; congr 1; omega⟩
theorem macAt_find (nm : List UInt8) (l : List Mac) : (findM nm l = none ∧ macAt l nm = -1) ∨ (∃ (j : Nat) (h : j < l.length), findM nm l = some l[j] ∧ macAt l nm = (j : Int)) := by
  rcases macFrom_find nm l 0 with h | ⟨j, h, a, b⟩
  · exact .inl h
  · exact .inr ⟨j, h, a, by rw [macAt, b]; congr 1; omega⟩

set_option maxRecDepth 100000 in
set_option maxHeartbeats 1000000 in
theorem l04Machine_any (x : Sls) (s : St) (nm : List UInt8) (w : World) (h : MacRow w x.ma x.ml s.ms) (hl : x.ml ≤ 1048576) :
    Calls Tryz.prog 47 #[sv x s, .string (bs nm)] w fun e w' => e = .returned (.int .i64 (macAt s.ms nm)) ∧ Below w.heap.size w w' := by
  have HR := hide h
  have HL := hide h.1
  have HB0 := hide (below_al (Below.refl _ w) (.cells (svc x s) 29))
  have P0 := hide (blk_new w (svc x s) 29)
  clear h
  obtain ⟨qa, ql, qc, aa, al, ac, ma, ml, mc, ca, cl, cc⟩ := x
  obtain ⟨qs, clock, epoch, next, serial, apps, ms, cs⟩ := s
  simp only at hl HR HL ⊢
  go_enter Tryz.func47, Tryz.ntmps47
  go_wp2
  go_loopw [5] (fun i wr => ∃ (k : Nat), k ≤ ml ∧ i = .int .i64 k ∧ Hid (macAt ms nm = macFrom nm (ms.drop k) k) ∧ Hid (Blk wr w.heap.size (svc ⟨qa, ql, qc, aa, al, ac, ma, ml, mc, ca, cl, cc⟩ ⟨qs, clock, epoch, next, serial, apps, ms, cs⟩) 29) ∧ Hid (Below w.heap.size w wr)) (fun i _ => ml - (intOf i).toNat)
  case atStart => exact ⟨0, Nat.zero_le _, rfl, hide (by simp [macAt]), P0, HB0⟩
  case round =>
    obtain ⟨k, hk, rfl, HQ, HP, HB⟩ := hrel
    have p6 := (unhide HP).at 6
    simp at p6
    by_cases hlt : k < ml
    · obtain ⟨b, off, rfl, hq⟩ := ((unhide HR).below (unhide HB)).at hlt
      have hkl : k < ms.length := by have := unhide HL; omega
      have hst := hide (macFrom_step (nm := nm) hkl)
      have c0 := (hq hkl).1
      clear hq
      obtain ⟨s, hs⟩ : ∃ s, ms[k].name = s := ⟨_, rfl⟩
      rw [hs] at c0 hst
      have hbe := bs_eq s nm
      clear hs hkl
      by_cases he : s = nm
      · have HE := hide he
        rw [decide_eq_true he] at hbe
        clear he
        go_wp2
        go_ret
        exact ⟨ret_int (by rw [unhide HQ, unhide hst, if_pos (unhide HE)]), unhide HB⟩
      · have HE := hide he
        rw [decide_eq_false he] at hbe
        clear he
        go_wp2
        go_roundw
        case rel => exact ⟨k + 1, by omega, by go_num, hide (by rw [unhide HQ, unhide hst, if_neg (unhide HE)]), HP, HB⟩
        case measure => simp [intOf]; omega
    · go_wp2
      go_ret
      exact ⟨ret_int (by rw [unhide HQ, macFrom_end (by have := unhide HL; omega)]), unhide HB⟩
end Go.Proofs.YtcplnodfcchdhaaGreat
