/-
  Queues read from their text: what the program's ReadQueues answers; a walk over the dump.
-/
import Derived.Test.YtebaejokhpdbkaaGreatDoorAsI
import Derived.BigQuiet
namespace Go.Proofs.YtebaejokhpdbkaaGreatDoor
open Go.RowKit
set_option linter.unusedVariables false

theorem readL_bad : ∀ (n : Nat) (acc : List Q) (s : List UInt8), s.length < n → (readL n acc s).2 ≠ 0 → (readL n acc s).1 = []
  | 0, _, s, h => by omega
  | n + 1, acc, s, h => by
    rw [readL]
    split
    · intro e; simp at e
    · split
      · rename_i h2
        exact readL_bad n _ _ (by simp; omega)
      · intro _; rfl
/-- the library's variable errorType holds the type error -/
def ErrTypeAt (w : World) : Prop := w.cell? ⟨0, 0, none⟩ = some (.iface 105 (.agg #[hdl 53]))
theorem ErrTypeAt.below {w w' : World} (h : ErrTypeAt w) (hb : Below w.heap.size w w') : ErrTypeAt w' := (hb.cell (p := ⟨0, 0, none⟩) (cell_lt h)).trans h

set_option maxRecDepth 100000 in
set_option maxHeartbeats 4000000 in
theorem implReadQueues_any (l : List UInt8) (w : World) (hs : l.length ≤ 1048576) (hm : MaxLenAt w) (hg : ErrTypeAt w) :
    Calls Tryz.prog 8 #[.string (bs l)] w fun e w' => ∃ v, e = .returned (.tuple #[v, .int .i64 ((rd [] l).2 : Int)]) ∧ QOwn w.heap.size w' v (rd [] l).1 ∧ Below w.heap.size w w' := by
  have CT := hide (readTree_any l w hs hm)
  have HBAD := hide (readL_bad (l.length + 1) [] l (by omega))
  have HG := hide hg
  obtain ⟨⟨rl, rn⟩, hr⟩ : ∃ p, rd [] l = p := ⟨_, rfl⟩
  rw [show readL (l.length + 1) [] l = rd [] l from rfl, hr] at HBAD
  rw [hr] at CT ⊢
  simp only at CT HBAD ⊢
  clear hr hm hg
  go_enter Tryz.func8, Tryz.ntmps8
  go_wp2_with fail
  refine (unhide CT).mono ?_
  rintro e w1 ⟨v, rfl, ho, hb⟩
  obtain ⟨ao, cp, hv, _, _⟩ := ho.row
  have HO := hide ho
  have HB := hide hb
  clear ho hb CT
  subst hv
  by_cases h0 : rn = 0
  · subst h0
    have HO2 := hide ((unhide HO).below (below_al (Below.refl _ w1) (.cells #[.int .i64 0] 57)))
    have HB2 := hide (below_al (unhide HB) (.cells #[.int .i64 0] 57))
    have he : errOf 0 = .nilIface := rfl
    rw [he]
    clear HO HB
    go_wp2_with (go_at_call 27; refine (as_nil _ _).mono ?_; rintro e w' ⟨rfl, rfl⟩)
    go_ret2
    exact ⟨_, rfl, unhide HO2, unhide HB2⟩
  · have he : errOf rn = .iface 57 (.agg #[.int .i64 (rn : Int)]) := if_neg h0
    have hrl : rl = [] := unhide HBAD h0
    subst hrl
    have HB2 := hide (below_al (unhide HB) (.cells #[.int .i64 0] 57))
    have hw := (unhide HB).size
    have CA := hide (as_hit (rn : Int) ⟨w1.heap.size, 0, none⟩ (.int .i64 0) (w1.alloc (.cells #[.int .i64 0] 57)) ((unhide HG).below (unhide HB2)) (by simp) (by simp))
    rw [he]
    clear h0 HBAD HO
    go_wp2_with fail
    refine (unhide CA).mono ?_
    rintro e w2 ⟨rfl, hw2⟩
    have HBF := hide (show Below w.heap.size w w2 by
      rw [← hw2]
      exact below_sc (below_al (below_al (below_al (below_al (unhide HB2) _) _) _) _) _ _ _ (by omega))
    have hc : w2.cell? ⟨w1.heap.size, 0, none⟩ = some (.int .i64 (rn : Int)) := by
      rw [← hw2]
      refine World.cell?_setCell_same _ _ _ (u := .int .i64 0) ?_
      rw [World.cell?_alloc_lt _ _ ⟨w1.heap.size, 0, none⟩ (by simp; omega), World.cell?_alloc_lt _ _ ⟨w1.heap.size, 0, none⟩ (by simp; omega), World.cell?_alloc_lt _ _ ⟨w1.heap.size, 0, none⟩ (by simp; omega), World.cell?_alloc_lt _ _ ⟨w1.heap.size, 0, none⟩ (by simp)]
      simp
    clear hw2 CA
    go_wp2_with fail
    go_quiet (fail)
    go_wp2
    go_ret2
    exact ⟨.slice none 0 0, rfl, qown_nil _ _, below_drewN (unhide HBF) _⟩
end Go.Proofs.YtebaejokhpdbkaaGreatDoor
