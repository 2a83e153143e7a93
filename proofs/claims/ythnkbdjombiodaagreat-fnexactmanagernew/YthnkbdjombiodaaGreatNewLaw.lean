/-
  What StateNew answers, in one form for both answers; the laws' own marks on it.
-/
import Derived.Test.YthnkbdjombiodaaGreatNewSt
import Derived.Test.YthnkbdjombiodaaGreatOkM
namespace Go.Proofs.YthnkbdjombiodaaGreat
open Go.RowKit
set_option linter.unusedVariables false

def qlN (l : List Q) : List Q := if queuesOk l = true then l else []
def epN (l : List Q) : Int := if queuesOk l = true then 1 else 0
def nxN (l : List Q) : Int := if queuesOk l = true then 1001 else 0
theorem new_ok (l : List Q) : stateOkV (newSt l 1 1001 1) = queuesOk l := by
  have h1 : appsOkV (newSt l 1 1001 1) = true := rfl
  have h2 : machsOkS (newSt l 1 1001 1) = true := rfl
  simp only [stateOkV, stateOkS, h1, h2]
  rw [show (inB 0 0 1000000000 && (inB 1 1 1000000000 && (inB 1001 1 1000000000 && (inB 1 1 1000000000 && (true && (true && (decide (([] : List Con).length ≤ 150) && contsS [] [] 0 []))))))) = true from rfl, Bool.and_true]
/-- the answer, a state in a box to come, whose queues own their memory -/
theorem NewAns.one {w w' : World} {l : List Q} {e : Ending} (h : NewAns w l e w') : ∃ qo n c, e = .returned (.tuple #[.agg (svc (newX qo n c) (newSt (qlN l) (epN l) (nxN l) (epN l))), .bool (queuesOk l)]) ∧ n = (qlN l).length ∧ QOwn (w.heap.size + 1) w' (.slice qo n c) (qlN l) ∧ Below w.heap.size w w' := by
  obtain ⟨hb, ⟨ho, rfl⟩ | ⟨ho, v, rfl, hown⟩⟩ := h
  · refine ⟨none, 0, 0, ?_, ?_, ?_, hb⟩
    · simp [qlN, epN, nxN, ho]
    · simp [qlN, ho]
    · simp only [qlN, ho]; exact qown_nil _ _
  · obtain ⟨qo, qc, rfl, _⟩ := qown_rowx hown
    refine ⟨qo, l.length, qc, ?_, ?_, ?_, hb⟩
    · simp [qlN, epN, nxN, ho]
    · simp [qlN, ho]
    · simp only [qlN, ho]; exact hown
/-- a list of queues that bears its marks -/
def Marked (w : World) (qo : Option Addr) (n : Nat) : Prop := (n = 0 ∨ ∃ g, qo = some ⟨g, 0, none⟩) ∧ QRow w qo n (marksQ n)
theorem Marked.below {w w' : World} {qo : Option Addr} {n : Nat} (h : Marked w qo n) (hb : Below w.heap.size w w') : Marked w' qo n := ⟨h.1, h.2.below hb⟩
theorem own_lt {w : World} {B : Nat} {v : Value} {l : List Q} (h : QOwn B w v l) : ∀ k, v.ownBlock = some k → B ≤ k ∧ k < w.heap.size := fun k hk => World.ownsRow.lt h k hk
theorem markQ_own {B n c : Nat} {qo : Option Addr} {l : List Q} {w : World} (h : QOwn B w (.slice qo n c) l) (hn : n = l.length) (hl : n ≤ 1048576) :
    Calls Tryz.prog 10 #[.slice qo n c, .int .i64 1] w fun e w' => e = .returned (.int .i64 (1 + 4 * (n : Int))) ∧ Marked w' qo n ∧ w.grownBy w' (Value.slice qo n c).ownBlock := by
  by_cases hz : n = 0
  · subst hz
    refine (markQueueS_zero qo c w).mono ?_
    rintro e w' ⟨rfl, rfl⟩
    exact ⟨rfl, ⟨.inl rfl, ⟨rfl, .inl rfl⟩⟩, grownBy_refl _ _⟩
  · obtain ⟨g, cap, e, ha, _, hc, _⟩ := h.some (fun e => hz (by rw [hn, e]; rfl))
    simp only [Value.slice.injEq] at e
    obtain ⟨rfl, rfl, rfl⟩ := e
    refine (markQueueS_full g _ c w ha hc hl).mono ?_
    rintro e w' ⟨rfl, hq, hg⟩
    exact ⟨rfl, ⟨.inr ⟨g, rfl⟩, hq.rowOf (marksQ_len _).symm⟩, hg⟩
theorem heldQ_own {n c : Nat} {qo : Option Addr} {w : World} (h : Marked w qo n) (hl : n ≤ 1048576) :
    Calls Tryz.prog 36 #[.slice qo n c, .int .i64 1] w fun e w' => e = .returned (.int .i64 (1 + 4 * (n : Int))) ∧ Below w.heap.size w w' := by
  by_cases hz : n = 0
  · subst hz
    refine (heldQueueS_zero qo c w).mono ?_
    rintro e w' ⟨rfl, rfl⟩
    exact ⟨rfl, Below.refl _ _⟩
  · obtain ⟨h1, h2⟩ := h
    rcases h1 with h1 | ⟨g, rfl⟩
    · exact absurd h1 hz
    · exact heldQueueS_any g n c w h2 hl
theorem markSt_own {B n c : Nat} {qo : Option Addr} {l : List Q} {w : World} (ep nx se : Int) (h : QOwn B w (.slice qo n c) l) (hn : n = l.length) (hl : n ≤ 1048576) :
    Calls Tryz.prog 21 #[.agg (svc (newX qo n c) (newSt l ep nx se)), .int .i64 1] w fun e w' => e = .returned (.int .i64 (1 + 4 * (n : Int))) ∧ Marked w' qo n ∧ w.grownBy w' (Value.slice qo n c).ownBlock := by
  refine (markState_new qo n c l ep nx se (1 + 4 * (n : Int)) (by omega) w (fun wx w' => Marked w' qo n ∧ wx.grownBy w' (Value.slice qo n c).ownBlock) ?_ ?_).mono ?_
  · intro wx w1 hb hr arr t hk
    exact (hr.2.block _ hk.lt (fun e => by have := (own_lt h _ e.symm).2; omega)).trans hk
  · intro wx hb _
    exact markQ_own (h.below hb) hn hl
  · rintro e w' ⟨rfl, hm, hg⟩
    exact ⟨rfl, hm, grownBy_trans (World.grownBy_alloc w _ _) hg⟩
theorem heldSt_own {n c : Nat} {qo : Option Addr} {w : World} (l : List Q) (ep nx se : Int) (h : Marked w qo n) (hl : n ≤ 1048576) :
    Calls Tryz.prog 23 #[.agg (svc (newX qo n c) (newSt l ep nx se)), .int .i64 1] w fun e w' => e = .returned (.int .i64 (1 + 4 * (n : Int))) ∧ Below w.heap.size w w' := by
  refine (heldState_new qo n c l ep nx se (1 + 4 * (n : Int)) (by omega) w (fun wx w' => Below wx.heap.size wx w') ?_ ?_).mono ?_
  · intro wx w1 hb hr arr t hk
    exact hk.below hr
  · intro wx hb _
    exact heldQ_own (h.below hb) hl
  · rintro e w' ⟨rfl, hb⟩
    exact ⟨rfl, below_on (boxW_below w _) hb⟩
end Go.Proofs.YthnkbdjombiodaaGreat
