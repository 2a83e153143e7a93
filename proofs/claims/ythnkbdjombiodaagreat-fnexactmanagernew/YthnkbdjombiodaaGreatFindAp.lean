/-
  Where an application of a number is, in plain words; where the model looks for an application; a walk over the dump.
-/
import Derived.Test.YthnkbdjombiodaaGreatAKey
namespace Go.Proofs.YthnkbdjombiodaaGreat
open Go.RowKit Go.Maps
set_option linter.unusedVariables false

def findAp (id : Int) (l : List Appl) : Option Appl := l.find? (fun a => decide (a.id = id))
/-- the place of the first application of that number, from place k on; -1 where there is none -/
def apFrom (id : Int) : List Appl → Nat → Int
  | [], _ => -1
  | q :: t, k => if q.id = id then k else apFrom id t (k + 1)
def apAt (l : List Appl) (id : Int) : Int := apFrom id l 0
theorem apFrom_step {id : Int} {l : List Appl} {k : Nat} (h : k < l.length) : apFrom id (l.drop k) k = if l[k].id = id then (k : Int) else apFrom id (l.drop (k + 1)) (k + 1) := by
  rw [List.drop_eq_getElem_cons h, apFrom]
theorem apFrom_end {id : Int} {l : List Appl} {k : Nat} (h : l.length ≤ k) : apFrom id (l.drop k) k = -1 := by
  rw [List.drop_of_length_le h]; rfl
theorem apFrom_find (id : Int) : ∀ (l : List Appl) (k : Nat), (findAp id l = none ∧ apFrom id l k = -1) ∨ (∃ (j : Nat) (h : j < l.length), findAp id l = some l[j] ∧ apFrom id l k = ((k + j : Nat) : Int))
  | [], k => .inl ⟨rfl, rfl⟩
  | q :: t, k => by
    by_cases h : q.id = id
    · right
      exact ⟨0, by simp, by simp [findAp, h], by rw [apFrom, if_pos h]; simp⟩
    · have hf : findAp id (q :: t) = findAp id t := by simp [findAp, h]
      rw [hf, apFrom, if_neg h]
      rcases apFrom_find id t (k + 1) with ⟨a, b⟩ | ⟨j, hj, a, b⟩
      · exact .inl ⟨a, b⟩
      · exact .inr ⟨j + 1, by simpa using hj, by simpa using a, by rw [b]; congr 1; omega⟩
theorem apAt_find (id : Int) (l : List Appl) : (findAp id l = none ∧ apAt l id = -1) ∨ (∃ (j : Nat) (h : j < l.length), findAp id l = some l[j] ∧ apAt l id = (j : Int)) := by
  rcases apFrom_find id l 0 with h | ⟨j, h, a, b⟩
  · exact .inl h
  · exact .inr ⟨j, h, a, by rw [apAt, b]; congr 1; omega⟩
theorem heads_find {hs : List AV} {l : List Appl} {id : Int} : hs.length = l.length → (∀ i (h : i < hs.length) (h' : i < l.length), hs[i].id = l[i].id ∧ hs[i].queue = l[i].queue) → (findA id hs).map AV.queue = (findAp id l).map Appl.queue := by
  induction hs generalizing l with
  | nil =>
    intro h _
    have : l = [] := List.length_eq_zero_iff.1 h.symm
    subst this
    rfl
  | cons v t ih =>
    intro h1 h2
    cases l with
    | nil => simp at h1
    | cons a r =>
      have h0 := h2 0 (by simp) (by simp)
      simp only [List.getElem_cons_zero] at h0
      by_cases e : a.id = id
      · have e' : v.id = id := h0.1.trans e
        simp [findA, findAp, e, e', h0.2]
      · have e' : ¬ v.id = id := fun x => e (h0.1.symm.trans x)
        have := ih (l := r) (by simpa using h1) (fun i a b => by have := h2 (i + 1) (by simpa using a) (by simpa using b); simpa using this)
        simpa [findA, findAp, e, e'] using this

set_option maxRecDepth 100000 in
set_option maxHeartbeats 1000000 in
theorem l04App_any (x : Sls) (s : St) (id : Int) (w : World) (h : ApplRow w x.aa x.al s.apps) (hl : x.al ≤ 1048576) :
    Calls Tryz.prog 45 #[sv x s, .int .i64 id] w fun e w' => e = .returned (.int .i64 (apAt s.apps id)) ∧ Below w.heap.size w w' := by
  have HR := hide h
  have HL := hide h.1
  have HB0 := hide (below_al (Below.refl _ w) (.cells (svc x s) 29))
  have P0 := hide (blk_new w (svc x s) 29)
  clear h
  obtain ⟨qa, ql, qc, aa, al, ac, ma, ml, mc, ca, cl, cc⟩ := x
  obtain ⟨qs, clock, epoch, next, serial, apps, ms, cs⟩ := s
  simp only at hl HR HL ⊢
  go_enter Tryz.func45, Tryz.ntmps45
  go_wp2
  go_loopw [5] (fun i wr => ∃ (k : Nat), k ≤ al ∧ i = .int .i64 k ∧ Hid (apAt apps id = apFrom id (apps.drop k) k) ∧ Hid (Blk wr w.heap.size (svc ⟨qa, ql, qc, aa, al, ac, ma, ml, mc, ca, cl, cc⟩ ⟨qs, clock, epoch, next, serial, apps, ms, cs⟩) 29) ∧ Hid (Below w.heap.size w wr)) (fun i _ => al - (intOf i).toNat)
  case atStart => exact ⟨0, Nat.zero_le _, rfl, hide (by simp [apAt]), P0, HB0⟩
  case round =>
    obtain ⟨k, hk, rfl, HQ, HP, HB⟩ := hrel
    have p5 := (unhide HP).at 5
    simp at p5
    by_cases hlt : k < al
    · obtain ⟨b, off, rfl, hq⟩ := ((unhide HR).below (unhide HB)).at hlt
      have hkl : k < apps.length := by have := unhide HL; omega
      have hst := hide (apFrom_step (id := id) hkl)
      obtain ⟨xo, xl, xc, hxx⟩ := hq hkl
      have c0 := hxx.1
      clear hq hxx
      obtain ⟨s, hs⟩ : ∃ s, apps[k].id = s := ⟨_, rfl⟩
      rw [hs] at c0 hst
      clear hs hkl
      by_cases he : s = id
      · have HE := hide he
        have hbe : (s == id) = true := by simp [he]
        clear he
        go_wp2
        go_ret
        exact ⟨ret_int (by rw [unhide HQ, unhide hst, if_pos (unhide HE)]), unhide HB⟩
      · have HE := hide he
        have hbe : (s == id) = false := by simp [he]
        clear he
        go_wp2
        go_roundw
        case rel => exact ⟨k + 1, by omega, by go_num, hide (by rw [unhide HQ, unhide hst, if_neg (unhide HE)]), HP, HB⟩
        case measure => simp [intOf]; omega
    · go_wp2
      go_ret
      exact ⟨ret_int (by rw [unhide HQ, apFrom_end (by have := unhide HL; omega)]), unhide HB⟩
end Go.Proofs.YthnkbdjombiodaaGreat
