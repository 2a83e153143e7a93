/-
  What a law over an answer that is a state and a list of containers holds: the answer, its marks.
-/
import Derived.Test.YtdkgmfogeabaoaaGreatMarkX
import Derived.Test.YtdkgmfogeabaoaaGreatTakS
namespace Go.Proofs.YtdkgmfogeabaoaaGreat
open Go.RowKit
set_option linter.unusedVariables false

/-- an answer in a variable: its state and its list own their memory -/
structure AnsL (B E : Nat) (w : World) (g : Nat) (y : Sls) (s : St) (hs : List AV) (go : Option Addr) (gn : Nat) (gone : List Con) : Prop where
  box : Blk w g (svc y s) 35
  a : SAns B E w y s hs
  c : ConRow w go gn gone
  co : Own1 B E w 61 5 go gn
  ap : ∀ k, inR go gn k → ¬ inR y.ca y.cl k
  ge : E ≤ g
theorem AnsL.below {B E : Nat} {w w' : World} {g : Nat} {y : Sls} {s : St} {hs : List AV} {go : Option Addr} {gn : Nat} {gone : List Con} (h : AnsL B E w g y s hs go gn gone) (hb : Below w.heap.size w w') : AnsL B E w' g y s hs go gn gone :=
  ⟨h.box.below hb, h.a.below hb, h.c.below hb, h.co.below hb, h.ap, h.ge⟩
theorem AnsL.al {B E : Nat} {w : World} {g : Nat} {y : Sls} {s : St} {hs : List AV} {go : Option Addr} {gn : Nat} {gone : List Con} (h : AnsL B E w g y s hs go gn gone) (o : Obj) : AnsL B E (w.alloc o) g y s hs go gn gone := h.below (below_al (Below.refl _ _) o)
theorem AnsL.keep {B E : Nat} {w w' : World} {g : Nat} {y : Sls} {s : St} {hs : List AV} {go : Option Addr} {gn : Nat} {gone : List Con} (h : AnsL B E w g y s hs go gn gone) (hk : ∀ k, B ≤ k → k < E → w'.heap[k]? = w.heap[k]?) (hg : w'.heap[g]? = w.heap[g]?) : AnsL B E w' g y s hs go gn gone := by
  refine ⟨hg.trans h.box, h.a.keep hk, h.c.kept (fun k hi => ?_), ?_, h.ap, h.ge⟩
  · obtain ⟨h1, h2, _⟩ := h.co.lies k hi
    exact hk k h1 h2
  · rcases h.co with e | ⟨b, M, e, h1, h2, h3, h4⟩
    · exact .inl e
    · exact .inr ⟨b, M, e, h1, h2, h3.of_block (hk b h1 h2), h4⟩
theorem AnsL.read {B E : Nat} {w : World} {g : Nat} {y : Sls} {s : St} {hs : List AV} {go : Option Addr} {gn : Nat} {gone : List Con} (h : AnsL B E w g y s hs go gn gone) : w.cell? ⟨g, 0, none⟩ = some (.slice y.qa y.ql y.qc) ∧ w.cell? ⟨g, 1, none⟩ = some (.int .i64 s.clock) ∧ w.cell? ⟨g, 2, none⟩ = some (.int .i64 s.epoch) ∧ w.cell? ⟨g, 3, none⟩ = some (.int .i64 s.next) ∧ w.cell? ⟨g, 4, none⟩ = some (.int .i64 s.serial) ∧ w.cell? ⟨g, 5, none⟩ = some (.slice y.aa y.al y.ac) ∧ w.cell? ⟨g, 6, none⟩ = some (.slice y.ma y.ml y.mc) ∧ w.cell? ⟨g, 7, none⟩ = some (.slice y.ca y.cl y.cc) :=
  ⟨h.box.at 0, h.box.at 1, h.box.at 2, h.box.at 3, h.box.at 4, h.box.at 5, h.box.at 6, h.box.at 7⟩
theorem StAns.lay {w w' : World} {s : St} {gone : List Con} {e : Ending} (h : StAns w s gone e w') : ∃ y hs go gn gc, e = .returned (.tuple #[sv y s, .slice go gn gc]) ∧ AnsL w.heap.size w'.heap.size (w'.alloc (.cells (svc y s) 35)) w'.heap.size y s hs go gn gone ∧ Below w.heap.size w w' := by
  obtain ⟨y, hs, go, gn, gc, rfl, h1, h2, h3, h4⟩ := h
  have hb := below_al (Below.refl _ w') (.cells (svc y s) 35)
  exact ⟨y, hs, go, gn, gc, rfl, ⟨blk_new _ _ _, h1.below hb, h2.1.below hb, h2.2.below hb, h3, Nat.le_refl _⟩, h4⟩
/-- the blocks of a state's lists are its own -/
structure OwnS (B E : Nat) (w : World) (x : Sls) (hs : List AV) : Prop where
  q : Own1 B E w 99 4 x.qa x.ql
  a : Own1 B E w 95 3 x.aa x.al
  m : Own1 B E w 103 4 x.ma x.ml
  c : Own1 B E w 61 5 x.ca x.cl
  k : ∀ v ∈ hs, Own1 B E w 144 5 v.ao v.len
theorem SAns.own {B E : Nat} {w : World} {x : Sls} {s : St} {hs : List AV} (h : SAns B E w x s hs) : OwnS B E w x hs := ⟨h.q, h.a, h.m, h.c, h.asks⟩
theorem OwnS.mks {B E : Nat} {w w' : World} {x : Sls} {hs : List AV} {S : Nat → Prop} (h : OwnS B E w x hs) (hm : Mks S w w') : OwnS B E w' x hs := ⟨h.q.mks hm, h.a.mks hm, h.m.mks hm, h.c.mks hm, fun v hv => (h.k v hv).mks hm⟩
/-- an answer whose state bears its marks -/
structure AnsH (B E : Nat) (w : World) (g : Nat) (y : Sls) (s : St) (hs : List AV) (go : Option Addr) (gn : Nat) : Prop where
  box : Blk w g (svc y s) 35
  m : SMk w y hs
  own : OwnS B E w y hs
  co : Own1 B E w 61 5 go gn
  ap : ∀ k, inR go gn k → ¬ inR y.ca y.cl k
  ge : E ≤ g
theorem AnsH.read {B E : Nat} {w : World} {g : Nat} {y : Sls} {s : St} {hs : List AV} {go : Option Addr} {gn : Nat} (h : AnsH B E w g y s hs go gn) : w.cell? ⟨g, 0, none⟩ = some (.slice y.qa y.ql y.qc) := h.box.at 0
theorem mark_st {B E : Nat} {w : World} {g : Nat} {y : Sls} {s : St} {hs : List AV} {go : Option Addr} {gn : Nat} {gone : List Con} (h : AnsL B E w g y s hs go gn gone) (hl : SLim y hs) :
    Calls Tryz.prog 14 #[sv y s, .int .i64 1] w fun e w' => e = .returned (.int .i64 (endS y hs : Int)) ∧ AnsH B E w' g y s hs go gn ∧ Mks (inS y hs) w w' := by
  refine (markState_ans h.a (by have := h.box.lt; have := h.ge; omega) hl).mono ?_
  rintro e w' ⟨rfl, hm, hk⟩
  exact ⟨rfl, ⟨hk.blk h.box (fun hi => by have := h.a.ins g hi; have := h.ge; omega), hm, h.a.own.mks hk, h.co.mks hk, h.ap, h.ge⟩, hk⟩
/-- an answer that bears all its marks -/
structure AnsM (w : World) (g : Nat) (y : Sls) (s : St) (hs : List AV) (go : Option Addr) (gn : Nat) : Prop where
  box : Blk w g (svc y s) 35
  m : SMk w y hs
  c : ConRow w go gn (marksC (endS y hs) gn)
theorem AnsM.below {w w' : World} {g : Nat} {y : Sls} {s : St} {hs : List AV} {go : Option Addr} {gn : Nat} (h : AnsM w g y s hs go gn) (hb : Below w.heap.size w w') : AnsM w' g y s hs go gn := ⟨h.box.below hb, h.m.below hb, h.c.below hb⟩
theorem AnsM.al {w : World} {g : Nat} {y : Sls} {s : St} {hs : List AV} {go : Option Addr} {gn : Nat} (h : AnsM w g y s hs go gn) (o : Obj) : AnsM (w.alloc o) g y s hs go gn := h.below (below_al (Below.refl _ _) o)
theorem AnsM.read {w : World} {g : Nat} {y : Sls} {s : St} {hs : List AV} {go : Option Addr} {gn : Nat} (h : AnsM w g y s hs go gn) : w.cell? ⟨g, 0, none⟩ = some (.slice y.qa y.ql y.qc) ∧ w.cell? ⟨g, 1, none⟩ = some (.int .i64 s.clock) ∧ w.cell? ⟨g, 2, none⟩ = some (.int .i64 s.epoch) ∧ w.cell? ⟨g, 3, none⟩ = some (.int .i64 s.next) ∧ w.cell? ⟨g, 4, none⟩ = some (.int .i64 s.serial) ∧ w.cell? ⟨g, 5, none⟩ = some (.slice y.aa y.al y.ac) ∧ w.cell? ⟨g, 6, none⟩ = some (.slice y.ma y.ml y.mc) ∧ w.cell? ⟨g, 7, none⟩ = some (.slice y.ca y.cl y.cc) :=
  ⟨h.box.at 0, h.box.at 1, h.box.at 2, h.box.at 3, h.box.at 4, h.box.at 5, h.box.at 6, h.box.at 7⟩
theorem SLim.end {y : Sls} {hs : List AV} (h : SLim y hs) : 0 < endS y hs ∧ endS y hs ≤ 100000000000000 := by
  have h1 := h.e
  have h2 := h.m
  have h3 := h.c
  unfold endS
  omega
theorem mark_gone {B E : Nat} {w : World} {g : Nat} {y : Sls} {s : St} {hs : List AV} {go : Option Addr} {gn gc : Nat} (h : AnsH B E w g y s hs go gn) (hl : SLim y hs) (hn : gn ≤ 1048576) :
    Calls Tryz.prog 16 #[.slice go gn gc, .int .i64 (endS y hs : Int)] w fun e w' => e = .returned (.int .i64 ((endS y hs : Int) + 5 * (gn : Int))) ∧ AnsM w' g y s hs go gn ∧ Mks (inR go gn) w w' := by
  have he := hl.end
  refine (markContS_own (c := gc) (endS y hs) h.co hn he.1 (by omega)).mono ?_
  rintro e w' ⟨rfl, hr, hm⟩
  have hap : ∀ {t : TypeId} {sz n : Nat} {ao : Option Addr}, Own1 B E w t sz ao n → t ≠ 61 → ∀ k, inR ao n k → ¬ inR go gn k := fun ho ht => ho.apart h.co ht
  exact ⟨rfl, ⟨hm.blk h.box (fun hi => by have := (h.co.lies g hi).2.1; have := h.ge; omega), ⟨h.m.q.mks hm (hap h.own.q (by decide)), h.m.a.mks hm (hap h.own.a (by decide)), h.m.k.mks hm _ _ (fun v hv => hap (h.own.k v hv) (by decide)), h.m.m.mks hm (hap h.own.m (by decide)), h.m.c.mks hm (fun k h1 h2 => h.ap k h2 h1), h.m.z⟩, hr⟩, hm⟩
theorem held_gone {w : World} {g : Nat} {y : Sls} {s : St} {hs : List AV} {go : Option Addr} {gn gc : Nat} (h : AnsM w g y s hs go gn) (hl : SLim y hs) (hn : gn ≤ 1048576) :
    Calls Tryz.prog 18 #[.slice go gn gc, .int .i64 (endS y hs : Int)] w fun e w' => e = .returned (.int .i64 ((endS y hs : Int) + 5 * (gn : Int))) ∧ Below w.heap.size w w' :=
  heldContS_any go gn gc (endS y hs) w h.c hn hl.end.1 (by have := hl.end; omega)
/-- what lies outside of the blocks of an answer stands -/
theorem AnsL.off {B E B' E' : Nat} {w w' : World} {g : Nat} {y : Sls} {s : St} {hs : List AV} {go : Option Addr} {gn : Nat} {gone : List Con} {S : Nat → Prop} (h : AnsL B E w g y s hs go gn gone) (hm : Mks S w w') (hS : ∀ k, S k → B' ≤ k ∧ k < E') (h1 : g < B' ∨ E' ≤ B) (h2 : g < B' ∨ E' ≤ g) : AnsL B E w' g y s hs go gn gone :=
  h.keep (fun k hk1 hk2 => hm.block k (by have := h.box.lt; have := h.ge; omega) (fun hs => by have := hS k hs; have := h.ge; omega)) (hm.block g h.box.lt (fun hs => by have := hS g hs; omega))
theorem AnsL.offd {B E B' E' : Nat} {w w' : World} {g : Nat} {y : Sls} {s : St} {hs : List AV} {go : Option Addr} {gn : Nat} {gone : List Con} (h : AnsL B E w g y s hs go gn gone) (hm : Mkd B' E' w w') (h1 : g < B' ∨ E' ≤ B) (h2 : g < B' ∨ E' ≤ g) : AnsL B E w' g y s hs go gn gone :=
  h.keep (fun k hk1 hk2 => hm.block k (by have := h.box.lt; have := h.ge; omega) (by have := h.ge; omega)) (hm.block g h.box.lt h2)
theorem InBox.off {w wx wy : World} {x : Sls} {s : St} {B : Nat} {S : Nat → Prop} (h : InBox w x s wx) (hm : Mks S wx wy) (hS : ∀ k, S k → B ≤ k) (h1 : w.heap.size < B) (h2 : B ≤ wx.heap.size) : InBox w x s wy := h.low (hm.below hS h2) h1
/-- what fits, in part -/
theorem fit_part {s : St} (hf : FitSt s) (p : Appl → Bool) (q : Mac → Bool) (r : Con → Bool) : FitSt ⟨s.qs, s.clock, s.epoch, s.next, s.serial, s.apps.filter p, s.ms.filter q, s.cs.filter r⟩ :=
  ⟨hf.1, ⟨Nat.le_trans (List.length_filter_le _ _) hf.2.1.1, fun a ha => hf.2.1.2 a (List.mem_filter.1 ha).1⟩, ⟨Nat.le_trans (List.length_filter_le _ _) hf.2.2.1.1, fun a ha => hf.2.2.1.2 a (List.mem_filter.1 ha).1⟩, ⟨Nat.le_trans (List.length_filter_le _ _) hf.2.2.2.1, fun a ha => hf.2.2.2.2 a (List.mem_filter.1 ha).1⟩⟩
theorem all_filter {α : Type} (l : List α) : l.filter (fun _ => true) = l := by simp
theorem fit_drop {s : St} (hf : FitSt s) (app : Int) : FitSt (dropV s app).1 ∧ (dropV s app).2.length ≤ 1048576 := by
  unfold dropV
  split
  · refine ⟨?_, Nat.le_trans (List.length_filter_le _ _) hf.2.2.2.1⟩
    have := fit_part hf (fun a => !decide (a.id = app)) (fun _ => true) (fun q => !decide (q.app = app))
    rwa [all_filter] at this
  · exact ⟨hf, by simp⟩
theorem fit_lose {s : St} (hf : FitSt s) (nm : List UInt8) : FitSt (loseV s nm).1 ∧ (loseV s nm).2.length ≤ 1048576 := by
  unfold loseV
  split
  · refine ⟨?_, Nat.le_trans (List.length_filter_le _ _) hf.2.2.2.1⟩
    have := fit_part hf (fun _ => true) (fun v => !decide (v.name = nm)) (fun q => !decide (q.node = nm))
    rwa [all_filter] at this
  · exact ⟨hf, by simp⟩
theorem fit_take {s : St} (hf : FitSt s) (ids : List Int) : FitSt (takeV s ids).1 ∧ (takeV s ids).2.length ≤ 1048576 := by
  unfold takeV
  split
  · refine ⟨?_, Nat.le_trans (List.length_filter_le _ _) hf.2.2.2.1⟩
    have := fit_part hf (fun _ => true) (fun _ => true) (fun q => !hasI q.id ids)
    rwa [all_filter, all_filter] at this
  · exact ⟨hf, by simp⟩
/-- what toState made, by heads that are there -/
theorem own4_heads {w : World} {g1 g2 g3 g4 : Nat} {x : Sls} {s : St} (h : SOwn4 w g1 g2 g3 g4 x.ql x.al x.ml x.cl s) (hl : SLen x s) : ∃ hs, AVRow w (some ⟨g2, 0, none⟩) x.al hs ∧ Heads w hs s.apps ∧ SSome (own4 g1 g2 g3 g4 x.ql x.al x.ml x.cl) hs := by
  obtain ⟨hs, h1, h2⟩ := (h.2.1.row hl.2.1).heads
  refine ⟨hs, h1, h2, ⟨_, rfl⟩, ⟨_, rfl⟩, ⟨_, rfl⟩, ⟨_, rfl⟩, fun v hv => ?_⟩
  obtain ⟨i, hi, rfl⟩ := List.getElem_of_mem hv
  have hi' : i < s.apps.length := by rw [← h2.1]; exact hi
  obtain ⟨arr, a1, a2, a3⟩ := h.2.1
  obtain ⟨_, _, ao, len, cap, e, ho⟩ := a3 i hi' (by have := hl.2.1; omega)
  obtain ⟨b, rfl, _, _⟩ := ho.2.2.2
  rcases h1.2 with z | ⟨b', off', z, hh⟩
  · have := h1.1; omega
  · cases z
    have hc := (hh i hi).2.2
    simp [World.cell?, a1] at hc
    rw [e] at hc
    simp at hc
    exact ⟨_, hc.1.symm⟩
end Go.Proofs.YtdkgmfogeabaoaaGreat
