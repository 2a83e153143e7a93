/-
  The queue, its parent, and so on up to the first one: what the program's Path answers; a walk over the dump.
-/
import Derived.Test.YtebaejokhpdbkaaGreatDoorGatherI
import Derived.Test.YtebaejokhpdbkaaGreatDoorPackD
import Derived.Test.YtebaejokhpdbkaaGreatDoorClone
namespace Go.Proofs.YtebaejokhpdbkaaGreatDoor
open Go.RowKit Go.Shelf
set_option linter.unusedVariables false
attribute [local go_sem] Oper.semAt_some

set_option maxRecDepth 100000 in
set_option maxHeartbeats 4000000 in
theorem implPath_any (ao : Option Addr) (len cap : Nat) (l : List Q) (nm : List UInt8) (w : World) (h : QRow w ao len l) (hl : len ≤ 1048576) (hn : ∀ q ∈ l, q.name.length ≤ 1048576) (hc : len ≤ cap) :
    Calls Tryz.prog 6 #[.slice ao len cap, .string (bs nm)] w fun e w' => ∃ v, e = .returned v ∧ Texts w.heap.size w' v (path l nm) ∧ Below w.heap.size w w' := by
  obtain ⟨i0, hi, hz0, hz1, hz2⟩ := info_parts Tryz.infoS
  have HR := hide h
  have HL := hide h.1
  have CQ := hide (implQueuesOk_any ao len cap l w h hl hn hc)
  have HN := hide hn
  have HP := hide (fun ho : queuesOk l = true => ups_path ho nm)
  have HZ := hide (show queuesOk l = false → path l nm = [] by intro e; rw [path, e]; rfl)
  obtain ⟨o, ho⟩ : ∃ o, queuesOk l = o := ⟨_, rfl⟩
  rw [ho] at CQ HP HZ
  clear ho hn h
  have hmx : Tryz.prog.follows .mixedOrders = true := by kernel_rfl
  refine (callsIn_wide (n := 3)).1 ?_
  refine callsIn_of_wp_marks Tryz.func6 rfl trivial ?_ rfl
  simp only [Tryz.ntmps6, List.size_toArray, List.length_cons, List.length_nil, Nat.reduceAdd, Nat.reduceSub, Array.replicate_succ, Array.replicate_zero, List.push_toArray, List.append_toArray, List.nil_append, List.cons_append]
  gi_wp2_with fail
  refine ⟨trivial, ?_⟩
  first | refine ⟨(by intro e; cases e), ?_⟩ | skip
  refine (callsIn_wide.2 (unhide CQ)).mono ?_
  rintro e w1 ⟨rfl, hb⟩
  have HB1 := hide hb
  clear hb CQ
  cases o with
  | false =>
    have hz := unhide HZ (by first | rfl | trivial)
    gi_wp2
    exact ⟨_, results_tmp rfl _ _ _, _, rfl, Texts.of (o := []) (World.ownsRow_nil _ _ _ _) (by rw [hz]; rfl), unhide HB1⟩
  | true =>
    have hpa := unhide HP (by first | rfl | trivial)
    have HPA := hide hpa
    have HBo := hide (((Go.Boxed.new w1 27 (.slice none 0 0)).alloc (.cells #[.slice ao len cap] 24)).alloc (.cells #[.string (bs nm)] 9))
    have hBq : (((w1.alloc (.cells #[.slice none 0 0] 27)).alloc (.cells #[.slice ao len cap] 24)).alloc (.cells #[.string (bs nm)] 9)).cell? ⟨w1.heap.size + 1, 0, none⟩ = some (.slice ao len cap) := by
      have := ((Go.Boxed.new (w1.alloc (.cells #[.slice none 0 0] 27)) 24 (.slice ao len cap)).alloc (.cells #[.string (bs nm)] 9)).cell
      simpa using this
    have hBn : (((w1.alloc (.cells #[.slice none 0 0] 27)).alloc (.cells #[.slice ao len cap] 24)).alloc (.cells #[.string (bs nm)] 9)).cell? ⟨w1.heap.size + 1 + 1, 0, none⟩ = some (.string (bs nm)) := by
      have := (Go.Boxed.new ((w1.alloc (.cells #[.slice none 0 0] 27)).alloc (.cells #[.slice ao len cap] 24)) 9 (.string (bs nm))).cell
      simpa using this
    have HB0 := hide (below_al (below_al (below_al (unhide HB1) (.cells #[.slice none 0 0] 27)) (.cells #[.slice ao len cap] 24)) (.cells #[.string (bs nm)] 9))
    have HC := hide (above_stops (3 - 1) (w1.heap.size + 1) (w1.heap.size + 1 + 1) ao len cap l nm w _ (unhide HR) (unhide HB0) hl hc hBq hBn)
    clear HP HZ hpa hBq hBn
    gi_wp2_with fail
    refine ⟨trivial, ?_⟩
    first | refine ⟨(by intro e; cases e), ?_⟩ | skip
    refine (callsIn_wide.2 (above_any ao len cap nm _)).mono ?_
    rintro e w2 ⟨rfl, rfl⟩
    gi_wp2
    have hsz : (((w1.alloc (.cells #[.slice none 0 0] 27)).alloc (.cells #[.slice ao len cap] 24)).alloc (.cells #[.string (bs nm)] 9)).heap.size = w1.heap.size + 3 := by simp
    obtain ⟨W0, hW0⟩ : ∃ W0, ((w1.alloc (.cells #[.slice none 0 0] 27)).alloc (.cells #[.slice ao len cap] 24)).alloc (.cells #[.string (bs nm)] 9) = W0 := ⟨_, rfl⟩
    rw [hW0] at hsz HBo HB0 HC ⊢
    have hw1 := (unhide HB1).size
    clear hW0
    refine wpIn_rangeFunc_ownH rfl (by omega) (gf := 42) (lb := #[.pointer (some ⟨w1.heap.size + 1, 0, none⟩), .pointer (some ⟨w1.heap.size + 1 + 1, 0, none⟩)]) rfl trivial (enters_of Tryz.func42 (by kernel_rfl) rfl)
      (unhide HC) kpq_t (kpq_b (by omega)) (Below.refl _ _) (fun _ => rfl)
      (fun pre W => (∃ v, Go.Boxed W w1.heap.size 27 v ∧ W.ownsRow w.heap.size 9 1 v pre.length (scells (pre.map (fun q => bs q.1.name))) ∧ True) ∧ Below w.heap.size w W)
      (fun _ _ _ => False)
      (OwnFrom.and (Own.from (holdsRow_own w.heap.size w1.heap.size 27 9 1 (fun pre : List { q : Q // q ∈ l } => pre.length) (fun pre : List { q : Q // q ∈ l } => scells (pre.map (fun q => bs q.1.name))) (fun _ _ => True)) _) (ownFrom_below (Nat.le_refl _) (by omega)))
      (fun _ _ _ _ _ hs _ _ => hs)
      ⟨⟨_, unhide HBo, World.ownsRow_nil _ _ _ _, trivial⟩, unhide HB0⟩
      (fun x a' W => ∃ Bx, w1.heap.size < Bx ∧ QBox W Bx x.1 ∧ a' = { tmps := #[.slice ao len cap, .string (bs nm), undef, undef, .slice none 0 0, .pointer (some ⟨w1.heap.size, 0, none⟩), .pointer (some ⟨Bx, 0, none⟩), .slice ao len cap, .bool true, .bool false, .slice ao len cap, .string (bs nm), .func (.func 42) #[] #[.pointer (some ⟨w1.heap.size + 1, 0, none⟩), .pointer (some ⟨w1.heap.size + 1 + 1, 0, none⟩)], qv x.1, undef, undef, undef, undef, undef, undef, undef], defers := [] })
      (fun x a' _ X Y row hs hg hr => by
        obtain ⟨Bx, h1, h2, h3⟩ := hs
        refine ⟨Bx, h1, (hg.block Bx h2.lt (fun e => ?_)).trans h2, h3⟩
        obtain ⟨_, o, ho, hc⟩ := hr Bx e.symm
        rw [show X.heap[Bx]? = _ from h2] at ho
        cases ho
        cases hc)
      ?assign ?body ?done ?stop
    case assign =>
      rintro lp pre x W K ⟨⟨v, hv, hrow, _⟩, hB⟩ hK
      gi_wp2
      exact hK _ _ ((KeepsOthers.alloc _ _).from _) (kpq_of hB.size (below_al (Below.refl _ W) _)) ⟨⟨v, hv.alloc _, hrow.alloc _, trivial⟩, below_al hB _⟩ ⟨W.heap.size, hv.lt, QBox.new W x.1, rfl⟩
    case body =>
      rintro lp pre x a' W hlp _ ⟨⟨v, hv, hrow, _⟩, hB⟩ ⟨Bx, hBx, hX, rfl⟩ hlt
      have hc0 := hv.cell
      have hx0 := hX.c0
      have hname : (bs x.1.name).size ≤ 281474976710656 := by rw [bs_size]; have := unhide HN x.1 x.2; omega
      have hpl : pre.length ≤ 1048576 := by have := unhide HL; omega
      have HV := hide hv
      have HX := hide hX
      have HRW := hide hrow
      have HB := hide hB
      clear hv hX hrow hB
      gi_wp2_with fail
      gi_region_with_o (first | (refine ⟨trivial, ?_⟩; gi_at_call 22; refine (CallsIn.inRound lp (callsIn_wide.2 (clone_any _ _ hname))).mono ?_; rintro e w3 ⟨rfl, hb3⟩; have HW3 := hide (below_on (Below.refl _ W).drew hb3); have hc3 := (boxed_below (unhide HV) (unhide HW3)).cell; have hc3b := ((boxed_below (unhide HV) (unhide HW3)).alloc (.cells #[.string (bs x.1.name)] 9)).cell; obtain ⟨g, cp, w4, hrun, hc4, hf4, HFIN⟩ := gather_step 27 9 (.string ByteArray.empty) 16 i0 Tryz.underlying27 hi hz0 hz1 hz2 rfl (by decide) (by decide) (by omega) (boxed_below (unhide HV) (unhide HW3)) (row_below (unhide HRW) (unhide HW3)) hpl (Nat.le_trans (unhide HB).size (unhide HW3).size) (unhide HB1).size (.string (bs x.1.name)) rfl; clear hb3; simp [go_sem] at hrun))
      all_goals gi_wp2
      all_goals
        obtain ⟨f1, f2, f3, f4, f5⟩ := unhide HFIN
        exact ⟨((keeps_below (unhide HW3)).trans f3).from _, ⟨((unhide HW3).mono (unhide HB).size).trans f4, fun k q hq => f5 k q (hq.below (unhide HW3))⟩, ⟨⟨_, f1, by simpa using f2, trivial⟩, ((unhide HB).trans ((unhide HW3).mono (unhide HB).size)).trans f4⟩⟩
    case done =>
      rintro D ys W hD hys ⟨⟨v, hv, hrow, _⟩, hB⟩ hK
      have hc := hv.cell
      gi_wp2
      refine ⟨by simp, .inl ⟨_, _, rfl, run_takeDeferred hK, ?_⟩⟩
      exact ⟨_, results_tmp rfl _ _ _, v, rfl, Texts.of (o := ys.map (fun q => bs q.1.name)) (by have := ownsRow_putObj hrow (.deferred none) hK rfl; simpa using this) (by rw [← unhide HPA, ← hys]; simp), hB.trans (belowK_b (w := w) (Nat.le_refl _) W D _ _ (by omega) hK rfl rfl)⟩
    case stop =>
      rintro D c pre W _ _ h _
      exact h.elim
end Go.Proofs.YtebaejokhpdbkaaGreatDoor
