/-
  What the law of AppOf holds: variables with an application whose asks own their memory.
-/
import Derived.Test.YtgallgdmedfgmaaAppOfS
namespace Go.Proofs.Ytgallgdmedfgmaa
open Go.RowKit Go.Maps
set_option linter.unusedVariables false

theorem appOfV_len {s : St} {id : Int} (hf : FitSt s) : (appOfV s id).1.asks.length ≤ 1048576 := by
  unfold appOfV
  cases e : findAp id s.apps with
  | none => simp
  | some a => exact (hf.2.1.2 a (List.mem_of_find?_eq_some e)).2.1
theorem AOwn.keep {w w' : World} {B : Nat} {v : Value} {l : List Ask} (h : AOwn B w v l) (hk : ∀ k, v.ownBlock = some k → w'.heap[k]? = w.heap[k]?) : AOwn B w' v l := by
  obtain ⟨h1, h2⟩ := h
  refine ⟨h1, ?_⟩
  rcases h2 with h2 | ⟨g, cap, cur, e, b, c, d⟩
  · exact .inl h2
  · exact .inr ⟨g, cap, cur, e, b, (hk g (by rw [e]; rfl)).trans c, d⟩
/-- variable g holds an application whose asks own their memory, from block B on -/
def Ans (B : Nat) (w : World) (g : Nat) (id : Int) (qu : List UInt8) (ao : Option Addr) (n cap : Nat) (l : List Ask) : Prop :=
  Blk w g #[.int .i64 id, .string (bs qu), .slice ao n cap] 53 ∧ AOwn B w (.slice ao n cap) l ∧ l.length = n
theorem Ans.below {w w' : World} {B g n cap : Nat} {id : Int} {qu : List UInt8} {ao : Option Addr} {l : List Ask} (h : Ans B w g id qu ao n cap l) (hb : Below w.heap.size w w') : Ans B w' g id qu ao n cap l := ⟨h.1.below hb, h.2.1.below hb, h.2.2⟩
theorem Ans.al {w : World} {B g n cap : Nat} {id : Int} {qu : List UInt8} {ao : Option Addr} {l : List Ask} (h : Ans B w g id qu ao n cap l) (o : Obj) : Ans B (w.alloc o) g id qu ao n cap l := h.below (below_al (Below.refl _ _) o)
theorem ans_new {w : World} {B n cap : Nat} (id : Int) (qu : List UInt8) {ao : Option Addr} {l : List Ask} (h : AOwn B w (.slice ao n cap) l) (hn : l.length = n) : Ans B (w.alloc (.cells #[.int .i64 id, .string (bs qu), .slice ao n cap] 53)) w.heap.size id qu ao n cap l :=
  ⟨blk_new _ _ _, h.below (below_al (Below.refl _ _) _), hn⟩
theorem Ans.row {w : World} {B g n cap : Nat} {id : Int} {qu : List UInt8} {ao : Option Addr} {l : List Ask} (h : Ans B w g id qu ao n cap l) : AskRow w ao n l := by
  obtain ⟨ao', cap', e, hr, _⟩ := h.2.1.row
  cases e
  rw [h.2.2] at hr
  exact hr
theorem Ans.own {w : World} {B g n cap : Nat} {id : Int} {qu : List UInt8} {ao : Option Addr} {l : List Ask} (h : Ans B w g id qu ao n cap l) : ∀ k, (Value.slice ao n cap).ownBlock = some k → B ≤ k ∧ k < w.heap.size := fun k hk => World.ownsRow.lt h.2.1 k hk
theorem Ans.keep {w w' : World} {B g n cap : Nat} {id : Int} {qu : List UInt8} {ao : Option Addr} {l : List Ask} (h : Ans B w g id qu ao n cap l) (hg : w'.heap[g]? = w.heap[g]?) (hk : ∀ k, (Value.slice ao n cap).ownBlock = some k → w'.heap[k]? = w.heap[k]?) : Ans B w' g id qu ao n cap l := ⟨hg.trans h.1, h.2.1.keep hk, h.2.2⟩
theorem Ans.mkd {w w' : World} {B B0 E g n cap : Nat} {id : Int} {qu : List UInt8} {ao : Option Addr} {l : List Ask} (h : Ans B w g id qu ao n cap l) (hm : Mkd B0 E w w') (hg : g < B0 ∨ E ≤ g) (ho : ∀ k, (Value.slice ao n cap).ownBlock = some k → k < B0 ∨ E ≤ k) : Ans B w' g id qu ao n cap l :=
  h.keep (hm.block g h.1.lt hg) (fun k hk => hm.block k (h.own k hk).2 (ho k hk))
theorem Ans.low {w w' : World} {B B0 g n cap : Nat} {id : Int} {qu : List UInt8} {ao : Option Addr} {l : List Ask} (h : Ans B w g id qu ao n cap l) (hb : Below B0 w w') (hg : g < B0) (ho : ∀ k, (Value.slice ao n cap).ownBlock = some k → k < B0) : Ans B w' g id qu ao n cap l :=
  h.keep (hb.block g hg) (fun k hk => hb.block k (ho k hk))
theorem Ans.read {w : World} {B g n cap : Nat} {id : Int} {qu : List UInt8} {ao : Option Addr} {l : List Ask} (h : Ans B w g id qu ao n cap l) : w.cell? ⟨g, 0, none⟩ = some (.int .i64 id) ∧ w.cell? ⟨g, 1, none⟩ = some (.string (bs qu)) ∧ w.cell? ⟨g, 2, none⟩ = some (.slice ao n cap) := ⟨h.1.at 0, h.1.at 1, h.1.at 2⟩
/-- the same, its asks marked -/
def AnsM (w : World) (g : Nat) (id : Int) (qu : List UInt8) (ao : Option Addr) (n cap : Nat) : Prop := Blk w g #[.int .i64 id, .string (bs qu), .slice ao n cap] 53 ∧ AskRow w ao n (marksA 1 n)
theorem AnsM.below {w w' : World} {g n cap : Nat} {id : Int} {qu : List UInt8} {ao : Option Addr} (h : AnsM w g id qu ao n cap) (hb : Below w.heap.size w w') : AnsM w' g id qu ao n cap := ⟨h.1.below hb, h.2.below hb⟩
theorem AnsM.al {w : World} {g n cap : Nat} {id : Int} {qu : List UInt8} {ao : Option Addr} (h : AnsM w g id qu ao n cap) (o : Obj) : AnsM (w.alloc o) g id qu ao n cap := h.below (below_al (Below.refl _ _) o)
theorem AnsM.read {w : World} {g n cap : Nat} {id : Int} {qu : List UInt8} {ao : Option Addr} (h : AnsM w g id qu ao n cap) : w.cell? ⟨g, 0, none⟩ = some (.int .i64 id) ∧ w.cell? ⟨g, 1, none⟩ = some (.string (bs qu)) ∧ w.cell? ⟨g, 2, none⟩ = some (.slice ao n cap) := ⟨h.1.at 0, h.1.at 1, h.1.at 2⟩
theorem markApp_ans {w : World} {B g n cap : Nat} {id : Int} {qu : List UInt8} {ao : Option Addr} {l : List Ask} (h : Ans B w g id qu ao n cap l) (hB : B ≤ w.heap.size) (hn : n ≤ 1048576) :
    Calls Try.prog 22 #[applv id qu ao n cap, .int .i64 1] w fun e w' => e = .returned (.int .i64 (1 + 5 * (n : Int))) ∧ AnsM w' g id qu ao n cap ∧ Below B w w' := by
  have hl := h.2.2
  have := markApp_own B id (bs qu) (.slice ao n cap) l w h.2.1 hB (by omega)
  rw [hl] at this
  refine this.mono fun e w' ⟨h1, ⟨ao', cap', e2, h2⟩, h3, h4⟩ => ?_
  cases e2
  exact ⟨h1, ⟨h4 g _ _ h.1.lt h.1 (by decide), h2⟩, h3⟩
theorem InBox.mkd {w wx wy : World} {x : Sls} {s : St} {B E : Nat} (h : InBox w x s wx) (hm : Mkd B E wx wy) (h1 : w.heap.size < B) (h2 : B ≤ wx.heap.size) : InBox w x s wy := ⟨hm.blk h.1 (.inl h1), h.2.trans ((hm.below h2).mono (by omega))⟩
theorem InBox.low {w wx wy : World} {x : Sls} {s : St} {B : Nat} (h : InBox w x s wx) (hm : Below B wx wy) (h1 : w.heap.size < B) : InBox w x s wy := ⟨(hm.block _ h1).trans h.1, h.2.trans (hm.mono (by omega))⟩
theorem AWh.mono {w : World} {B E B' E' g n : Nat} (h : AWh w B E g n) (h1 : B' ≤ B) (h2 : E ≤ E') : AWh w B' E' g n :=
  ⟨h.1, fun i hi => let ⟨b, len, a, c, d, e, f, k⟩ := h.2 i hi; ⟨b, len, a, c, d, by omega, by omega, k⟩⟩
/-- both states stand, and all that was there in w9 -/
def InTwoB (w9 w : World) (x : Sls) (s : St) (g g1 g2 g3 g4 : Nat) (wx : World) : Prop := InTwo w x s g g1 g2 g3 g4 wx ∧ Below w9.heap.size w9 wx
theorem InTwoB.call {w9 w wx wy : World} {x : Sls} {s : St} {g g1 g2 g3 g4 : Nat} (h : InTwoB w9 w x s g g1 g2 g3 g4 wx) (hb : Below wx.heap.size wx wy) : InTwoB w9 w x s g g1 g2 g3 g4 wy := ⟨h.1.call hb, below_on h.2 hb⟩
theorem InTwoB.drew {w9 w wx : World} {x : Sls} {s : St} {g g1 g2 g3 g4 : Nat} (h : InTwoB w9 w x s g g1 g2 g3 g4 wx) : InTwoB w9 w x s g g1 g2 g3 g4 wx.drew := h.call (Below.refl _ _).drew
end Go.Proofs.Ytgallgdmedfgmaa
