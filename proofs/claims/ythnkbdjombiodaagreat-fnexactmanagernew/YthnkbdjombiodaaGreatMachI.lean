/-
  The map of machines: what the program's machines answers; a walk over the dump.
-/
import Derived.Test.YthnkbdjombiodaaGreatBackM
import Derived.Test.YthnkbdjombiodaaGreatMKey
namespace Go.Proofs.YthnkbdjombiodaaGreat
open Go.RowKit Go.Shelf Go.Maps
set_option linter.unusedVariables false
attribute [local go_sem] Oper.semAt_some

/-- behind the box, the map and its variable -/
def mapW (w : World) (c : Array Value) : World := ((w.alloc (.cells c 29)).alloc (.map #[] 0)).alloc (.cells #[.map (some (w.heap.size + 1))] 107)
theorem mapW_size (w : World) (c : Array Value) : (mapW w c).heap.size = w.heap.size + 1 + 1 + 1 := by simp only [mapW, al_size]
theorem mapW_below (w : World) (c : Array Value) : Below w.heap.size w (mapW w c) := below_al (below_al (below_al (Below.refl _ w) _) _) _
theorem mapW_own (w : World) (c : Array Value) : (mapW w c).ownsMap Tryz.prog 111 macElem (w.heap.size + 1) 0 (.map []) := by
  have := (World.ownsMap_made (w.alloc (.cells c 29)) Tryz.prog 111 macElem).alloc (.cells #[.map (some (w.heap.size + 1))] 107)
  rw [al_size] at this
  exact this
theorem mapW_var (w : World) (c : Array Value) : Blk (mapW w c) (w.heap.size + 1 + 1) #[.map (some (w.heap.size + 1))] 107 := by
  have := blk_new ((w.alloc (.cells c 29)).alloc (.map #[] 0)) #[.map (some (w.heap.size + 1))] 107
  rw [al_size, al_size] at this
  exact this
/-- the map holds the machines that were gone by, the variable holds the map -/
def MapInv (w : World) (l : List Mac) (W : World) : Prop := (∃ D, W.ownsMap Tryz.prog 111 macElem (w.heap.size + 1) l.length D ∧ KnownM l D) ∧ Blk W (w.heap.size + 1 + 1) #[.map (some (w.heap.size + 1))] 107
theorem MapInv.grown {w W W' : World} {l : List Mac} {row : Option Nat} (h : MapInv w l W) (hg : W.grownBy W' row) (hr : ∀ r, row = some r → w.heap.size + 1 + 1 < r) : MapInv w l W' := by
  obtain ⟨⟨D, h1, h2⟩, h3⟩ := h
  exact ⟨⟨D, h1.kept hg (fun e => by have := hr _ e.symm; omega), h2⟩, (hg.block _ h3.lt (fun e => by have := hr _ e.symm; omega)).trans h3⟩
theorem MapInv.below {w W W' : World} {l : List Mac} (h : MapInv w l W) (hb : Below W.heap.size W W') : MapInv w l W' := h.grown (grownBy_below (grownBy_refl W none) hb) (fun r e => by cases e)

set_option maxRecDepth 100000 in
set_option maxHeartbeats 4000000 in
theorem machines_any (x : Sls) (s : St) (w : World) (h : MacRow w x.ma x.ml s.ms) (hl : x.ml ≤ 1048576) (hn : ∀ m ∈ s.ms, m.name.length ≤ 1048576) :
    Calls Tryz.prog 79 #[sv x s] w fun e w' => e = .returned (.map (some (w.heap.size + 1))) ∧ MapInv w s.ms w' ∧ Below w.heap.size w w' := by
  obtain ⟨qa, ql, qc, aa, al, ac, ma, ml, mc, ca, cl, cc⟩ := x
  obtain ⟨qs, clock, epoch, next, serial, apps, ms, cs⟩ := s
  simp only at h hl hn ⊢
  have HR := hide h
  have HL := hide h.1
  have HN := hide hn
  have hmx : Tryz.prog.follows .mixedOrders = true := by kernel_rfl
  have hmm := fun (t : TypeId) (wx : World) => run_makeMap (P := Tryz.prog) t wx
  clear h hn
  refine (callsIn_wide (n := 3)).1 ?_
  refine callsIn_of_wp_marks Tryz.func79 rfl trivial ?_ rfl
  simp only [Tryz.ntmps79, List.size_toArray, List.length_cons, List.length_nil, Nat.reduceAdd, Nat.reduceSub, Array.replicate_succ, Array.replicate_zero, List.push_toArray, List.append_toArray, List.nil_append, List.cons_append]
  gi_wp2_with fail
  first | refine ⟨trivial, ?_⟩ | skip
  first | refine ⟨(by intro e; cases e), ?_⟩ | skip
  refine (callsIn_wide.2 (backM_any (.slice ma ml mc) _ rfl)).mono ?_
  rintro e w4 ⟨rfl, rfl⟩
  gi_wp2
  have hsz0 := al_size (mapW w (svc ⟨qa, ql, qc, aa, al, ac, ma, ml, mc, ca, cl, cc⟩ ⟨qs, clock, epoch, next, serial, apps, ms, cs⟩)) (.cells #[.slice ma ml mc] 26)
  rw [mapW_size] at hsz0
  have hB0 := below_al (mapW_below w (svc ⟨qa, ql, qc, aa, al, ac, ma, ml, mc, ca, cl, cc⟩ ⟨qs, clock, epoch, next, serial, apps, ms, cs⟩)) (.cells #[.slice ma ml mc] 26)
  have hI0 := MapInv.below (w := w) (l := []) ⟨⟨_, mapW_own w (svc ⟨qa, ql, qc, aa, al, ac, ma, ml, mc, ca, cl, cc⟩ ⟨qs, clock, epoch, next, serial, apps, ms, cs⟩), knownM_empty⟩, mapW_var w _⟩ (below_al (Below.refl _ _) (.cells #[.slice ma ml mc] 26))
  have hBs := (blk_new (mapW w (svc ⟨qa, ql, qc, aa, al, ac, ma, ml, mc, ca, cl, cc⟩ ⟨qs, clock, epoch, next, serial, apps, ms, cs⟩)) #[.slice ma ml mc] 26).at 0
  rw [mapW_size] at hBs
  obtain ⟨W0, hW0⟩ : ∃ W0, (mapW w (svc ⟨qa, ql, qc, aa, al, ac, ma, ml, mc, ca, cl, cc⟩ ⟨qs, clock, epoch, next, serial, apps, ms, cs⟩)).alloc (.cells #[.slice ma ml mc] 26) = W0 := ⟨_, rfl⟩
  rw [hW0] at hsz0 hB0 hI0 hBs
  have HC := hide (backM_stops (3 - 1) (w.heap.size + 1 + 1 + 1) ml mc ma ms W0 hBs ((unhide HR).below hB0) hl (unhide HN))
  show Code.wpIn _ _ _ _ _ _ ((mapW w (svc ⟨qa, ql, qc, aa, al, ac, ma, ml, mc, ca, cl, cc⟩ ⟨qs, clock, epoch, next, serial, apps, ms, cs⟩)).alloc (.cells #[.slice ma ml mc] 26))
  rw [hW0]
  clear hW0 hBs
  refine wpIn_rangeFunc_ownH rfl (by omega) (gf := 113) (lb := #[.pointer (some ⟨w.heap.size + 1 + 1 + 1, 0, none⟩)]) rfl trivial (enters_of Tryz.func113 (by kernel_rfl) rfl)
    (unhide HC) kpa_t kpa_b (Below.refl _ _) (fun _ => rfl)
    (fun pre W => MapInv w ((pre.map (fun x : Int × NMac => x.2.1)).reverse) W ∧ Below w.heap.size w W)
    (fun _ _ _ => False)
    (OwnFrom.and (fun s X Y row hs hg hr => MapInv.grown hs hg (fun r e => by have := (hr r e).1; omega)) (ownFrom_below (Nat.le_refl _) (by omega)))
    (fun _ _ _ _ _ hs _ _ => hs)
    ⟨hI0, hB0⟩
    (fun x a' W => ∃ Bx, w.heap.size + 1 + 1 < Bx ∧ Blk W Bx #[.string (bs x.2.1.name), .int .i64 x.2.1.mem, .int .i64 x.2.1.cpu, .int .i64 x.2.1.seen] 84 ∧ a' = { tmps := #[sv ⟨qa, ql, qc, aa, al, ac, ma, ml, mc, ca, cl, cc⟩ ⟨qs, clock, epoch, next, serial, apps, ms, cs⟩, .pointer (some ⟨w.heap.size, 0, none⟩), .map none, .pointer (some ⟨w.heap.size + 1 + 1, 0, none⟩), undef, .pointer (some ⟨Bx, 0, none⟩), .map (some (w.heap.size + 1)), .pointer (some ⟨w.heap.size, 6, none⟩), .slice ma ml mc, .func (.func 113) #[] #[.pointer (some ⟨w.heap.size + 1 + 1 + 1, 0, none⟩)], .int .i64 x.1, macv x.2.1, undef, undef, undef, undef, undef], defers := [] })
    (fun x a' _ X Y row hs hg hr => by
      obtain ⟨Bx, h1, h2, h3⟩ := hs
      refine ⟨Bx, h1, (hg.block Bx h2.lt (fun e => ?_)).trans h2, h3⟩
      obtain ⟨_, o, ho, hc⟩ := hr Bx e.symm
      rw [show X.heap[Bx]? = _ from h2] at ho
      cases ho
      cases hc)
    ?assign ?body ?done ?stop
  case assign =>
    rintro lp pre ⟨i, ⟨⟨nm, me, cp, se⟩, hnm⟩⟩ W K ⟨hI, hB⟩ hK
    have hlt := hI.2.lt
    gi_wp2
    exact hK _ _ ((KeepsOthers.alloc _ _).from _) (kpa_below (below_al (Below.refl _ W) _)) ⟨hI.below (below_al (Below.refl _ W) _), below_al hB _⟩ ⟨W.heap.size, hlt, blk_new W _ _, rfl⟩
  case body =>
    rintro lp pre ⟨i, ⟨⟨nm, me, cp, se⟩, hnm⟩⟩ a' W hlp _ ⟨hI, hB⟩ ⟨Bx, hBx, hX, rfl⟩ hlt
    have HI := hide hI
    have HX := hide hX
    have HB := hide hB
    have x0 := hX.at 0
    have x1 := hX.at 1
    have x2 := hX.at 2
    have x3 := hX.at 3
    have v0 := hI.2.at 0
    simp at x0 x1 x2 x3 v0
    have hpl : pre.length < 1048576 := by have := unhide HL; omega
    clear hI hX hB
    have hnm' : nm.length ≤ 1048576 := hnm
    obtain ⟨kl, hkey⟩ := keyKey (nm := nm) (k := 0) (by omega) (by decide)
    have HKEY := hide hkey
    clear hkey
    gi_wp2_with fail
    gi_region_with_o (first | (first | refine ⟨trivial, ?_⟩ | skip); (first | refine ⟨(by intro e; cases e), ?_⟩ | skip); refine (CallsIn.inRound lp (callsIn_wide.2 (macKey_any ⟨nm, me, cp, se⟩ _))).mono ?_; rintro e wc ⟨rfl, hbc⟩; have HW3 := hide (below_on (Below.refl _ W).drew hbc); have y0 := ((unhide HX).below (unhide HW3)).at 0; have y1 := ((unhide HX).below (unhide HW3)).at 1; have y2 := ((unhide HX).below (unhide HW3)).at 2; have y3 := ((unhide HX).below (unhide HW3)).at 3; have u0 := ((unhide HI).below (unhide HW3)).2.at 0; simp at y0 y1 y2 y3 u0; obtain ⟨D, hown, hk⟩ := ((unhide HI).below (unhide HW3)).1; obtain ⟨w4, hrun, hown2, hgrow2⟩ := hown.update keyLaw Tryz.underlying107 (by unfold maxLen; simp; omega) (unhide HKEY) (macElem_mk ⟨nm, me, cp, se⟩); have HFIN := hide (And.intro hown2 (And.intro hgrow2 (KnownM.put (m := ⟨nm, me, cp, se⟩) hk hown.isMap (unhide HKEY)))); clear hown2 hgrow2 hk hown hbc)
    all_goals gi_wp2
    all_goals
      obtain ⟨f1, f2, f3⟩ := unhide HFIN
      have hbelow := (unhide HW3)
      have hv4 := (f2.block _ ((unhide HI).below hbelow).2.lt (by simp)).trans ((unhide HI).below hbelow).2
      have hmi : MapInv w (⟨nm, me, cp, se⟩ :: (pre.map (fun x : Int × NMac => x.2.1)).reverse) w4 := ⟨⟨_, f1, f3⟩, hv4⟩
      refine ⟨((keepsO_below hbelow).from _).trans (KeepsFrom.of_grownBy f2 (fun j e => by cases e; omega)), kpa_t (kpa_below hbelow) (fun k o ho hc => (f2.block k (lt_of_block ho) (fun e => ?_)).trans ho), by simpa using hmi, ?_⟩
      · obtain ⟨D', hD', _⟩ := ((unhide HI).below hbelow).1
        obtain ⟨es, ck, hm', _⟩ := hD'
        obtain rfl : k = w.heap.size + 1 := by simpa using e
        rw [hm'] at ho
        cases ho
        cases hc
      · exact ((unhide HB).trans (hbelow.mono (unhide HB).size)).grown f2 (by have := (unhide HB).size; have := hbelow.size; omega) (fun k e => by cases e; omega)
  case done =>
    rintro D ys W hD hys ⟨hI, hB⟩ hK
    rw [unhide hys, List.reverse_reverse] at hI
    have v0 := hI.2.at 0
    simp at v0
    have HI := hide hI
    have HB := hide hB
    clear hI hB
    gi_wp2
    refine ⟨by simp, .inl ⟨_, _, rfl, run_takeDeferred hK, ?_⟩⟩
    exact ⟨_, results_tmp rfl _ _ _, rfl, (unhide HI).grown (grownBy_putObj' W D _) (fun r e => by cases e; omega), (unhide HB).trans (belowK_b (w := w) (Nat.le_refl _) W D _ _ (by omega) hK rfl rfl)⟩
  case stop =>
    rintro D c pre W _ _ h _
    exact h.elim
/-- the same, where the map stands left open -/
theorem machines_ex (x : Sls) (s : St) (w : World) (h : MacRow w x.ma x.ml s.ms) (hl : x.ml ≤ 1048576) (hn : ∀ m ∈ s.ms, m.name.length ≤ 1048576) :
    Calls Tryz.prog 79 #[sv x s] w fun e w' => ∃ bm, e = .returned (.map (some bm)) ∧ (w.heap.size ≤ bm ∧ ∃ D, w'.ownsMap Tryz.prog 111 macElem bm s.ms.length D ∧ KnownM s.ms D) ∧ Below w.heap.size w w' :=
  (machines_any x s w h hl hn).mono fun e w' ⟨h1, h2, h3⟩ => ⟨_, h1, ⟨by omega, h2.1⟩, h3⟩
end Go.Proofs.YthnkbdjombiodaaGreat
