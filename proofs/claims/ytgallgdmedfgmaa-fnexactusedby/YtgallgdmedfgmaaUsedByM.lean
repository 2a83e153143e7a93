/-
  What a queue uses: in plain words; where the model looks for an application and for a text; walks over the dump.
-/
import Derived.Test.YtgallgdmedfgmaaAKey
import Derived.Test.YtgallgdmedfgmaaFindAp
import Derived.Test.YtgallgdmedfgmaaCaps
import Derived.Test.YtgallgdmedfgmaaPackA
import Derived.Test.YtgallgdmedfgmaaTextsR
namespace Go.Proofs.Ytgallgdmedfgmaa
open Go.RowKit Go.Maps
set_option linter.unusedVariables false

/-- a container of an application whose queue is this one or below it -/
def byQ (s : St) (nm : List UInt8) (q : Con) : Bool := match findAp q.app s.apps with
  | none => false
  | some a => (path s.qs a.queue).any (fun x => decide (x = nm))
def usedByV (s : St) (nm : List UInt8) : Int × Int := ((sumR (usedL (byQ s nm) s.cs)).1, (sumR (usedL (byQ s nm) s.cs)).2.1)
set_option maxRecDepth 100000 in
set_option maxHeartbeats 1000000 in
theorem l04Has_any (v : Value) (ps : List (List UInt8)) (nm : List UInt8) (B : Nat) (w : World) (h : Texts B w v ps) (hl : ps.length ≤ 1048576) :
    Calls Try.prog 57 #[v, .string (bs nm)] w fun e w' => e = .returned (.bool (ps.any (fun x => decide (x = nm)))) ∧ w = w' := by
  obtain ⟨o, ho⟩ : ∃ o, ps.any (fun x => decide (x = nm)) = o := ⟨_, rfl⟩
  have HO := hide (show (ps.drop 0).any (fun x => decide (x = nm)) = o from ho)
  rw [ho]
  clear ho
  obtain ⟨ao, cap, rfl, HC⟩ : ∃ ao cap, v = .slice ao ps.length cap ∧ Hid (∀ j (hj : j < ps.length), ∃ g, ao = some ⟨g, 0, none⟩ ∧ w.cell? ⟨g, j, none⟩ = some (.string (bs ps[j]))) := by
    by_cases hp : ps = []
    · subst hp
      obtain ⟨a, cap, rfl⟩ := texts_none h
      exact ⟨a, cap, rfl, hide (fun j hj => by simp at hj)⟩
    · obtain ⟨g, cap, rfl, hs, _⟩ := texts_some h hp
      exact ⟨_, cap, rfl, hide (fun j hj => ⟨g, rfl, hs.text hj⟩)⟩
  clear h
  obtain ⟨n, hn⟩ : ∃ n, ps.length = n := ⟨_, rfl⟩
  rw [hn] at hl ⊢
  have HN := hide hn
  clear hn
  go_enter Try.func57, Try.ntmps57
  go_wp2
  go_loopw [5] (fun i wr => ∃ (k : Nat), k ≤ n ∧ i = .int .i64 k ∧ Hid ((ps.drop k).any (fun x => decide (x = nm)) = o) ∧ wr = w) (fun i _ => n - (intOf i).toNat)
  case atStart => exact ⟨0, Nat.zero_le _, rfl, HO, rfl⟩
  case round =>
    obtain ⟨k, hk, rfl, HQ, rfl⟩ := hrel
    by_cases hlt : k < n
    · have hkl : k < ps.length := by have := unhide HN; omega
      obtain ⟨g, rfl, c0⟩ := unhide HC k hkl
      have hst : (ps.drop k).any (fun x => decide (x = nm)) = (decide (ps[k] = nm) || (ps.drop (k + 1)).any (fun x => decide (x = nm))) := by rw [List.drop_eq_getElem_cons hkl, List.any_cons]
      rw [unhide HQ] at hst
      obtain ⟨s, hs⟩ : ∃ s, ps[k] = s := ⟨_, rfl⟩
      rw [hs] at c0 hst
      have hbe := bs_eq s nm
      clear hs hkl
      by_cases he : s = nm
      · rw [decide_eq_true he] at hbe hst
        have hot : o = true := by rw [hst]; rfl
        subst hot
        clear he hst
        go_wp2
        go_ret
        exact ⟨rfl, rfl⟩
      · rw [decide_eq_false he] at hbe hst
        have HN2 := hide (show (ps.drop (k + 1)).any (fun x => decide (x = nm)) = o by simpa using hst.symm)
        clear he hst
        go_wp2
        go_roundw
        case rel => exact ⟨k + 1, by omega, by go_num, HN2, trivial⟩
        case measure => simp [intOf]; omega
    · have hof : o = false := by rw [← unhide HQ, List.drop_of_length_le (by have := unhide HN; omega)]; rfl
      subst hof
      go_wp2
      go_ret
      exact ⟨rfl, rfl⟩
end Go.Proofs.Ytgallgdmedfgmaa
