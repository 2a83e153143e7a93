/-
  What a queue uses, by the program: whether a queue is below another one, the map's word on a container, what is used together, UsedBy (merge.py wrote this out of templates/ub).
-/
import Derived.Test.YtcplnodfcchdhaaGreatAboveI
import Derived.Test.YtcplnodfcchdhaaGreatStAll
import Derived.Test.YtcplnodfcchdhaaGreatPackC
import Derived.Test.YtcplnodfcchdhaaGreatPackL
import Derived.Test.YtcplnodfcchdhaaGreatPackX
import Derived.Test.YtcplnodfcchdhaaGreatPackT
import Derived.Test.YtcplnodfcchdhaaGreatPackAC
import Derived.Test.YtcplnodfcchdhaaGreatPackU
import Derived.Test.YtcplnodfcchdhaaGreatPackJ
import Derived.Maps.RangeWalk
/-
  Whether a queue is another one, or below it: what the program's reaches answers; a walk over the dump.
-/
namespace Go.Proofs.YtcplnodfcchdhaaGreat
open Go.RowKit Go.Shelf
set_option linter.unusedVariables false
attribute [local go_sem] Oper.semAt_some

def reachB (l : List Q) (nm wt : List UInt8) : Bool := (ups l nm).any (fun q => decide (q.name = wt))
theorem blk_own {β : Type} (g : Nat) (arr : Array Value) (t : TypeId) : Own (fun (_ : β) W => Blk W g arr t) := fun s X Y row hs hg hr =>
  (hg.block g (show Blk X g arr t from hs).lt (fun e => by
    obtain ⟨o, ho, hc⟩ := hr g e.symm
    rw [show X.heap[g]? = _ from hs] at ho
    cases ho
    cases hc)).trans hs
theorem own_prop {β : Type} (p : β → Prop) : Own (fun (s : β) (_ : World) => p s) := fun s X Y row hs _ _ => hs
theorem own_and2 {β : Type} {I I' : β → World → Prop} (h : Own I) (h' : Own I') : Own (fun s W => I s W ∧ I' s W) := fun s W W' row hs hg hr => ⟨h s W W' row hs.1 hg hr, h' s W W' row hs.2 hg hr⟩

set_option maxRecDepth 100000 in
set_option maxHeartbeats 4000000 in
theorem reaches_any (ao : Option Addr) (len cap : Nat) (l : List Q) (nm wt : List UInt8) (w : World) (h : QRow w ao len l) (hl : len ≤ 1048576) (hc : len ≤ cap) :
    Calls Tryz.prog 52 #[.slice ao len cap, .string (bs nm), .string (bs wt)] w fun e w' => e = .returned (.bool (reachB l nm wt)) ∧ Below w.heap.size w w' := by
  have HR := hide h
  have hB4 := below_al (below_al (below_al (below_al (Below.refl _ w) (.cells #[.string (bs wt)] 9)) (.cells #[.bool false] 4)) (.cells #[.slice ao len cap] 24)) (.cells #[.string (bs nm)] 9)
  have hK5 := (((blk_new w #[.string (bs wt)] 9).al (.cells #[.bool false] 4)).al (.cells #[.slice ao len cap] 24)).al (.cells #[.string (bs nm)] 9)
  have hK6 := ((blk_new (w.alloc (.cells #[.string (bs wt)] 9)) #[.bool false] 4).al (.cells #[.slice ao len cap] 24)).al (.cells #[.string (bs nm)] 9)
  have hBq := ((blk_new ((w.alloc (.cells #[.string (bs wt)] 9)).alloc (.cells #[.bool false] 4)) #[.slice ao len cap] 24).al (.cells #[.string (bs nm)] 9)).at 0
  have hBn := (blk_new (((w.alloc (.cells #[.string (bs wt)] 9)).alloc (.cells #[.bool false] 4)).alloc (.cells #[.slice ao len cap] 24)) #[.string (bs nm)] 9).at 0
  have hsz : ((((w.alloc (.cells #[.string (bs wt)] 9)).alloc (.cells #[.bool false] 4)).alloc (.cells #[.slice ao len cap] 24)).alloc (.cells #[.string (bs nm)] 9)).heap.size = w.heap.size + 4 := by simp only [al_size]
  rw [al_size] at hK6
  rw [al_size, al_size] at hBq
  rw [al_size, al_size, al_size] at hBn
  obtain ⟨o, ho⟩ : ∃ o, reachB l nm wt = o := ⟨_, rfl⟩
  have HO := hide ho
  rw [ho]
  clear h ho
  have hmx : Tryz.prog.follows .mixedOrders = true := by kernel_rfl
  refine (callsIn_wide (n := 3)).1 ?_
  refine callsIn_of_wp_marks Tryz.func52 rfl trivial ?_ rfl
  simp only [Tryz.ntmps52, List.size_toArray, List.length_cons, List.length_nil, Nat.reduceAdd, Nat.reduceSub, Array.replicate_succ, Array.replicate_zero, List.push_toArray, List.append_toArray, List.nil_append, List.cons_append]
  gi_wp2_with fail
  refine ⟨trivial, ?_⟩
  first | refine ⟨(by intro e; cases e), ?_⟩ | skip
  refine (callsIn_wide.2 (above_any ao len cap nm _)).mono ?_
  rintro e w2 ⟨rfl, rfl⟩
  gi_wp2
  obtain ⟨W0, hW0⟩ : ∃ W0, (((w.alloc (.cells #[.string (bs wt)] 9)).alloc (.cells #[.bool false] 4)).alloc (.cells #[.slice ao len cap] 24)).alloc (.cells #[.string (bs nm)] 9) = W0 := ⟨_, rfl⟩
  rw [hW0] at hB4 hK5 hK6 hBq hBn hsz ⊢
  have HC := hide (above_stops (3 - 1) (w.heap.size + 1 + 1) (w.heap.size + 1 + 1 + 1) ao len cap l nm w W0 (unhide HR) hB4 hl hc hBq hBn)
  clear hW0 hBq hBn
  refine wpIn_rangeFunc_ownH rfl (by omega) (gf := 121) (lb := #[.pointer (some ⟨w.heap.size + 1 + 1, 0, none⟩), .pointer (some ⟨w.heap.size + 1 + 1 + 1, 0, none⟩)]) rfl trivial (enters_of Tryz.func121 (by kernel_rfl) rfl)
    (unhide HC) kpq_t (kpq_b (by omega)) (Below.refl _ _) (fun _ => rfl)
    (fun pre W => ((Blk W w.heap.size #[.string (bs wt)] 9 ∧ Blk W (w.heap.size + 1) #[.bool false] 4) ∧ (∀ q ∈ pre, q.1.name ≠ wt)) ∧ Below w.heap.size w W)
    (fun c pre W => (Blk W (w.heap.size + 1) #[.bool true] 4 ∧ (c = .ret ∧ ∃ q ∈ pre, q.1.name = wt)) ∧ Below w.heap.size w W)
    (OwnFrom.and (Own.from (own_and2 (own_and2 (blk_own _ _ _) (blk_own _ _ _)) (own_prop (fun pre : List { q : Q // q ∈ l } => ∀ q ∈ pre, q.1.name ≠ wt))) _) (ownFrom_below (Nat.le_refl _) (by omega)))
    (fun c => OwnFrom.and (Own.from (own_and2 (blk_own _ _ _) (own_prop (fun pre : List { q : Q // q ∈ l } => c = .ret ∧ ∃ q ∈ pre, q.1.name = wt))) _) (ownFrom_below (Nat.le_refl _) (by omega)))
    ⟨⟨⟨hK5, hK6⟩, by simp⟩, hB4⟩
    (fun x a' W => ∃ Bx, w.heap.size + 1 < Bx ∧ QBox W Bx x.1 ∧ a' = { tmps := #[.slice ao len cap, .string (bs nm), .string (bs wt), undef, undef, .pointer (some ⟨w.heap.size, 0, none⟩), .pointer (some ⟨w.heap.size + 1, 0, none⟩), .pointer (some ⟨Bx, 0, none⟩), .slice ao len cap, .string (bs nm), .func (.func 121) #[] #[.pointer (some ⟨w.heap.size + 1 + 1, 0, none⟩), .pointer (some ⟨w.heap.size + 1 + 1 + 1, 0, none⟩)], qv x.1, undef, undef, undef, undef], defers := [] })
    (fun x a' _ X Y row hs hg hr => by
      obtain ⟨Bx, h1, h2, h3⟩ := hs
      refine ⟨Bx, h1, (hg.block Bx h2.lt (fun e => ?_)).trans h2, h3⟩
      obtain ⟨_, o, ho, hc⟩ := hr Bx e.symm
      rw [show X.heap[Bx]? = _ from h2] at ho
      cases ho
      cases hc)
    ?assign ?body ?done ?stop
  case assign =>
    rintro lp pre x W K ⟨⟨⟨k5, k6⟩, hne⟩, hB⟩ hK
    have hlt := k6.lt
    gi_wp2
    exact hK _ _ ((KeepsOthers.alloc _ _).from _) (kpq_of hB.size (below_al (Below.refl _ W) _)) ⟨⟨⟨k5.al _, k6.al _⟩, hne⟩, below_al hB _⟩ ⟨W.heap.size, hlt, QBox.new W x.1, rfl⟩
  case body =>
    rintro lp pre ⟨q, hq⟩ a' W hlp _ ⟨⟨⟨k5, k6⟩, hne⟩, hB⟩ ⟨Bx, hBx, hX, rfl⟩ hlt
    simp only at hX
    have hx0 := hX.c0
    have c5 := k5.at 0
    have c6 := k6.at 0
    have f6 := k6.f 0
    simp at c5 c6
    have hbe := bs_eq q.name wt
    have K5 := hide k5
    have K6 := hide k6
    have HNE := hide hne
    have HB := hide hB
    clear k5 k6 hne hB hX
    by_cases he : q.name = wt
    · have HE := hide he
      rw [decide_eq_true he] at hbe
      clear he
      gi_wp2
      refine ⟨(KeepsOthers.setCell _ _ _).from _, ⟨?_, rfl, ⟨q, hq⟩, by simp, unhide HE⟩, below_sc (unhide HB) _ _ _ (by omega)⟩
      have := (unhide K6).set 0 (.bool true)
      simpa using this
    · have HE := hide he
      rw [decide_eq_false he] at hbe
      clear he
      gi_wp2
      refine ⟨KeepsFrom.refl _ _, kpq_of (unhide HB).size (Below.refl _ _), ⟨⟨unhide K5, unhide K6⟩, ?_⟩, unhide HB⟩
      intro z hz
      rcases List.mem_append.1 hz with hz | hz
      · exact unhide HNE z hz
      · have : z = ⟨q, hq⟩ := by simpa using hz
        rw [this]
        exact unhide HE
  case done =>
    rintro D ys W hD hys ⟨⟨⟨k5, k6⟩, hne⟩, hB⟩ hK
    have c6 := k6.at 0
    have f6 := k6.f 0
    simp at c6
    have hres : o = false := by
      rw [← unhide HO, reachB, ← hys, List.any_eq_false]
      intro z hz
      obtain ⟨q, hq, rfl⟩ := List.mem_map.1 hz
      simpa using hne q hq
    subst hres
    have K6 := hide k6
    have HB := hide hB
    have HK := hide hK
    have hDW : D ≠ w.heap.size + 1 := by omega
    clear k5 k6 hne hB hK
    gi_wp2
    have e2 := (KeepsOthers.setCell W ⟨w.heap.size + 1, 0, none⟩ (.bool false)).same D _ (unhide HK) rfl
    refine ⟨by simp, .inl ⟨_, _, rfl, run_takeDeferred e2, ?_⟩⟩
    have KF : Blk _ (w.heap.size + 1) _ _ := (World.putObj_heap_other (o := .deferred none) (w := W.setCell ⟨w.heap.size + 1, 0, none⟩ (.bool false)) (Ne.symm hDW)).trans ((unhide K6).set 0 (.bool false))
    have r0 := KF.at 0
    simp at r0
    exact ⟨.bool false, (by simp [results, Tryz.results52, go_sem, r0]), rfl, (below_sc (unhide HB) _ _ _ (by omega)).trans (belowK_b (w := w) (Nat.le_refl _) _ D _ _ (by omega) e2 rfl rfl)⟩
  case stop =>
    rintro D c pre W hD hpre ⟨⟨k6, rfl, q, hq, he⟩, hB⟩ hK
    have hres : o = true := by
      rw [← unhide HO, reachB, List.any_eq_true]
      exact ⟨q.1, hpre.subset (List.mem_map_of_mem hq), by simpa using he⟩
    subst hres
    have K6 := hide k6
    have HB := hide hB
    have HK := hide hK
    have hDW : D ≠ w.heap.size + 1 := by omega
    clear k6 hB hK
    gi_wp2
    refine ⟨by simp, .inl ⟨_, _, rfl, run_takeDeferred (unhide HK), ?_⟩⟩
    have KF : Blk _ (w.heap.size + 1) _ _ := (World.putObj_heap_other (o := .deferred none) (w := W) (Ne.symm hDW)).trans (unhide K6)
    have r0 := KF.at 0
    simp at r0
    exact ⟨.bool true, (by simp [results, Tryz.results52, go_sem, r0]), rfl, (unhide HB).trans (belowK_b (w := w) (Nat.le_refl _) _ D _ _ (by omega) (unhide HK) rfl rfl)⟩
end Go.Proofs.YtcplnodfcchdhaaGreat
/-
  What those containers have together that a method's value counts, by the program: used; a walk over the dump.
-/
namespace Go.Proofs.YtcplnodfcchdhaaGreat
open Go.RowKit
set_option linter.unusedVariables false
set_option maxRecDepth 100000 in
set_option maxHeartbeats 4000000 in
theorem usedHas_any (bm : Nat) (p : Con → Bool) (x : Sls) (s : St) (w : World) (h : ConRow w x.ca x.cl s.cs) (hl : x.cl ≤ 1048576)
    (hp : ∀ wx q, q ∈ s.cs → Below w.heap.size w wx → Calls Tryz.prog 53 #[.map (some bm), conv q] wx fun e w' => e = .returned (.bool (p q)) ∧ Below wx.heap.size wx w') :
    Calls Tryz.prog 37 #[sv x s, .func (.func 53) #[.map (some bm)] #[]] w fun e w' => e = .returned (rv (sumR (usedL p s.cs)).1 (sumR (usedL p s.cs)).2.1) ∧ Below w.heap.size w w' := by
  obtain ⟨i0, hi, hz0, hz1, hz2⟩ := info_parts Tryz.infoR
  have eg := enters_of Tryz.func53 (by kernel_rfl) rfl
  obtain ⟨qa, ql, qc, aa, al, ac, ma, ml, mc, ca, cl, cc⟩ := x
  obtain ⟨qs, clock, epoch, next, serial, apps, ms, cs⟩ := s
  simp only at h hl ⊢
  have HR := hide h
  have HL := hide h.1
  have HP := hide hp
  obtain ⟨c, hc⟩ : ∃ c : Array Value, #[.slice qa ql qc, .int .i64 clock, .int .i64 epoch, .int .i64 next, .int .i64 serial, .slice aa al ac, .slice ma ml mc, .slice ca cl cc] = c := ⟨_, rfl⟩
  have HC := hide hc
  have HB0 := hide (capW_below w c)
  have V0 := hide (capW_var w c)
  have HW := hide (capW_size w c)
  clear h hc hp
  obtain ⟨⟨sx, sy, so⟩, hs⟩ : ∃ s, sumR (usedL p cs) = s := ⟨_, rfl⟩
  have HS := hide hs
  rw [hs]
  clear hs
  go_enter Tryz.func37, Tryz.ntmps37
  go_wp2
  go_loopw [5, 13] (fun v i wr => ∃ (k : Nat), k ≤ cl ∧ i = .int .i64 k ∧ Hid (ROwn (capW w c).heap.size wr v (usedL p (cs.take k))) ∧ Hid (Below (capW w c).heap.size (capW w c) wr)) (fun _ i _ => cl - (intOf i).toNat)
  case atStart =>
    obtain rfl := unhide HC
    exact ⟨0, Nat.zero_le _, rfl, hide (by simpa [usedL] using rown_nil _ _), hide (Below.refl _ _)⟩
  case round =>
    obtain ⟨k, hk, rfl, HO, HB⟩ := hrel
    by_cases hlt : k < cl
    · obtain ⟨b, off, rfl, hq⟩ := (((unhide HR).below (unhide HB0)).below (unhide HB)).at hlt
      have hkl : k < cs.length := by have := unhide HL; omega
      have hst := usedL_step (p := p) hkl
      obtain ⟨c0, c1, c2, c3, c4⟩ := hq hkl
      obtain ⟨m, hs⟩ : ∃ q, cs[k] = q := ⟨_, rfl⟩
      rw [hs] at c0 c1 c2 c3 c4 hst
      have hal : (usedL p (cs.take k)).length ≤ 1048576 := by have := used_len (p := p) (cs.take k); simp at this; omega
      obtain ⟨acc, hacc⟩ : ∃ a, usedL p (cs.take k) = a := ⟨_, rfl⟩
      rw [hacc] at hst hal HO
      obtain ⟨id, ap, nd, me, cp⟩ := m
      simp only at c0 c1 c2 c3 c4 hst
      have HBA := hide (below_al (Below.refl _ wr) (conobj ⟨id, ap, nd, me, cp⟩))
      have HCL := hide (unhide HP (wr.alloc (conobj ⟨id, ap, nd, me, cp⟩)) ⟨id, ap, nd, me, cp⟩ (by rw [← hs]; exact List.getElem_mem _) (below_on (below_on (unhide HB0) (unhide HB)) (unhide HBA)))
      have KB := hide (blk_new wr #[.int .i64 id, .int .i64 ap, .string (bs nd), .int .i64 me, .int .i64 cp] 72)
      clear hq hs hkl hacc
      cases hpq : p ⟨id, ap, nd, me, cp⟩ with
      | true =>
        rw [hpq] at HCL
        rw [hpq, if_pos rfl] at hst
        have HST := hide hst
        clear hpq hst
        go_wp2_with (first
          | ((first | go_at_call 53 | go_at_fn 53); refine (unhide HCL).mono ?_; rintro e w1 ⟨rfl, hb⟩; have HB1 := hide (below_on (below_on (unhide HB) (unhide HBA)) hb); have HO1 := hide (((unhide HO).below (unhide HBA)).below hb); have b1 := (unhide KB).below hb; have q3 := b1.at 3; have q4 := b1.at 4; simp at q3 q4; have hs2 : (capW w c).heap.size ≤ w1.heap.size := (unhide HB1).size; have hown : w1.ownsRow (capW w c).heap.size 33 2 _ acc.length (rcells acc) := unhide HO1; clear b1 hb HCL c0 c1 c2 c3 c4 HO HB)
          | (at_builtin; refine wpList_append_own _ rfl _ _ 85 rfl (capW w c).heap.size 33 i0 (.agg #[.int .i64 0, .int .i64 0]) 2 16 Tryz.underlying85 hi hz0 hz1 hz2 rfl (by decide) _ _ _ rfl (hown.alloc _) ⟨w1.heap.size, 0, none⟩ 1 1 (rcell (me, cp)) rfl rfl ?c1 ?c2 ?c3 ?c4 ?c5 ?_))
        case c1 =>
          intro j x hj
          match j, hj with
          | 0, hj => simp at hj; subst hj; simp [Addr.add]
          | 1, hj => simp at hj; subst hj; simp [Addr.add]
          | _ + 2, hj => simp at hj
        case c2 => intro x hx; simp at hx; rcases hx with rfl | rfl <;> rfl
        case c3 => unfold maxLen; omega
        case c4 => omega
        case c5 => simp at hs2 ⊢; omega
        intro v' w3 hown' hgrow _
        have R := rown_step (q := (me, cp)) (unhide HB1) (unhide HO1) hown' hgrow hs2
        have HR3 := hide R
        clear hown' hgrow hown R q3 q4
        go_wp2
        go_roundw
        case rel => exact ⟨k + 1, by omega, by go_num, hide (by rw [unhide HST]; exact (unhide HR3).1), hide (unhide HR3).2⟩
        case measure => simp [intOf]; omega
      | false =>
        rw [hpq] at HCL
        rw [hpq, if_neg (by simp)] at hst
        have HST := hide hst
        clear hpq hst
        go_wp2_with ((first | go_at_call 53 | go_at_fn 53); refine (unhide HCL).mono ?_; rintro e w1 ⟨rfl, hb⟩; have HB1 := hide (below_on (below_on (unhide HB) (unhide HBA)) hb); have HO1 := hide (((unhide HO).below (unhide HBA)).below hb); clear hb HCL c0 c1 c2 c3 c4 HO HB)
        go_roundw
        case rel => exact ⟨k + 1, by omega, by go_num, hide (by rw [unhide HST]; exact unhide HO1), HB1⟩
        case measure => simp [intOf]; omega
    · have htk : cs.take k = cs := List.take_of_length_le (by have := unhide HL; omega)
      rw [htk] at HO
      obtain ⟨ao, cp, rfl, hrow, hcp⟩ := (unhide HO).row
      have hlc : (usedL p cs).length ≤ 1048576 := by have := used_len (p := p) cs; have := unhide HL; omega
      have CT := hide (together_any ao _ cp (usedL p cs) wr hrow hlc)
      rw [unhide HS] at CT
      obtain ⟨n, hn⟩ : ∃ n, (usedL p cs).length = n := ⟨_, rfl⟩
      rw [hn] at CT ⊢
      clear hrow hn htk hcp hlc HO
      go_wp2_with fail
      refine (unhide CT).mono ?_
      rintro e w1 ⟨rfl, hb⟩
      have hsz : w.heap.size + 1 < (capW w c).heap.size := by have := unhide HW; omega
      have V1 : Var w1 33 (w.heap.size + 1) 0 0 := Var.below ((unhide HB).block _ hsz |>.trans (unhide V0)) hb
      have HB1 := hide (below_on (below_on (unhide HB0) (unhide HB)) hb)
      have V2 := V1.al (.cells #[.int .i64 sx, .int .i64 sy] 33)
      have t0 := V2.c0
      have t1 := V2.c1
      have f0 := V2.f 0
      have f1 := V2.f 1
      have VG := V2.set sx sy
      have k6 := VG.c0
      have k7 := VG.c1
      clear hb V1 V2 VG CT HB HB0
      go_wp2
      refine bodyPost_ret (v := rv sx sy) (by simp [results, Tryz.results37, go_sem, k6, k7]) rfl ⟨rfl, ?_⟩
      repeat (first | exact unhide HB1 | refine below_al ?_ _ | refine below_sc ?_ _ _ _ (by omega))
end Go.Proofs.YtcplnodfcchdhaaGreat
/-
  What a queue uses, by the program: UsedBy; a walk over the dump, with a map that is ranged over and shrinks.
-/
namespace Go.Proofs.YtcplnodfcchdhaaGreat
open Go.RowKit Go.Maps
set_option linter.unusedVariables false
set_option maxRecDepth 100000 in
theorem keyLits_str_inv {n : Nat} {cs : List Value} {ls : List Lit} (h : Tryz.prog.keyLits (n + 1) 9 cs = some ls) : ∃ s, cs = [.string s] := by
  unfold Program.keyLits at h
  rw [Tryz.underlying9] at h
  split at h <;> simp_all
set_option maxRecDepth 100000 in
theorem keyLits_int_inv {n : Nat} {cs : List Value} {ls : List Lit} (h : Tryz.prog.keyLits (n + 1) 3 cs = some ls) : ∃ k, cs = [.int .i64 k] := by
  unfold Program.keyLits at h
  rw [Tryz.underlying3] at h
  split at h <;> simp_all
set_option maxRecDepth 100000 in
theorem key_shape {key : Value} {kl : Lit} (h : keyOf Tryz.prog 69 key = some kl) : ∃ x : List UInt8 × Int, key = keyv x.1 x.2 := by
  have hu := Tryz.underlying69
  obtain ⟨m, hm⟩ := keyTypesMany
  unfold keyOf at h
  rw [hu] at h
  simp only at h
  split at h
  · rename_i hf
    rw [Bool.and_eq_true] at hf
    have hf2 := hf.2
    cases key with
    | agg cs =>
      simp only [Value.formed, hu, keyCells] at hf2
      obtain ⟨l⟩ := cs
      have hl : l.length = 2 := by simpa using hf2
      match l, hl with
      | [c0, c1], _ =>
        rw [hm, show (Value.agg #[c0, c1]).cells.toList = [c0, c1] from rfl] at h
        cases hk : Tryz.prog.keyLits (m + 2) 69 [c0, c1] with
        | none => rw [hk] at h; simp at h
        | some ls =>
          unfold Program.keyLits at hk
          rw [hu] at hk
          simp only at hk
          split at hk
          · simp [keyIntCells, keyStrCells] at hk
            cases h0 : Tryz.prog.keyLits (m + 1) 9 [c0] with
            | none => rw [h0] at hk; simp at hk
            | some l0 =>
              cases h1 : Tryz.prog.keyLits (m + 1) 3 [c1] with
              | none => rw [h0, h1] at hk; simp at hk
              | some l1 =>
                obtain ⟨s, e0⟩ := keyLits_str_inv h0
                obtain ⟨k, e1⟩ := keyLits_int_inv h1
                simp at e0 e1
                subst e0 e1
                exact ⟨(s.data.toList, k), by simp [keyv, bs_data]⟩
          · cases hk
    | _ => simp [Value.formed, hu] at hf2
  · cases h
theorem left_strike {D : DataW Unit} {left : Lit → Bool} {kl : Lit} (hkl : WideAt.IsKeyLit kl) (h : ∀ z, left z = true → Maps.has D z = true) : ∀ z, (left z && !z.sameKey kl) = true → Maps.has (D.del kl) z = true := fun z hz => by
  simp only [Bool.and_eq_true, Bool.not_eq_true'] at hz
  rw [has_del_other (fun e => by subst e; rw [WideAt.sameKey_self hkl] at hz; cases hz.2)]
  exact h z hz.1
theorem left_stay {D : DataW Unit} {left : Lit → Bool} {kl : Lit} (h : ∀ z, left z = true → Maps.has D z = true) : ∀ z, (left z && !z.sameKey kl) = true → Maps.has D z = true := fun z hz => by
  simp only [Bool.and_eq_true] at hz
  exact h z hz.1
theorem hasB_by {s : St} {hs : List AV} {w : World} (hh : Heads w hs s.apps) (ho : queuesOk s.qs = true) (nm : List UInt8) (q : Con) : hasB hs (fun v => reachB s.qs v.queue nm) q = byQ s nm q := by
  have e := heads_find (id := q.app) hh.1 (fun i a b => ⟨(hh.2 i a b).1, (hh.2 i a b).2.1⟩)
  unfold hasB byQ
  cases h1 : findA q.app hs with
  | none =>
    cases h2 : findAp q.app s.apps with
    | none => rfl
    | some a => rw [h1, h2] at e; cases e
  | some v =>
    cases h2 : findAp q.app s.apps with
    | none => rw [h1, h2] at e; cases e
    | some a =>
      rw [h1, h2] at e
      have e' : v.queue = a.queue := by simpa using e
      simp only [optB]
      rw [reachB, e', ← ups_path ho, List.any_map]
      rfl
theorem byQ_none {s : St} (ho : queuesOk s.qs = false) (nm : List UInt8) (q : Con) : byQ s nm q = false := by
  unfold byQ
  cases findAp q.app s.apps with
  | none => rfl
  | some a => simp [path, ho]
theorem usedL_none {p : Con → Bool} {l : List Con} (h : ∀ q, p q = false) : usedL p l = [] := by
  have : l.filter p = [] := by rw [List.filter_eq_nil_iff]; intro a _; simp [h a]
  simp [usedL, this]
theorem usedL_congr {p p' : Con → Bool} {l : List Con} (h : ∀ q, p q = p' q) : usedL p l = usedL p' l := by rw [show p = p' from funext h]
set_option maxRecDepth 100000 in
set_option maxHeartbeats 4000000 in
theorem implUsedBy_any (x : Sls) (s : St) (nm : List UInt8) (w : World) (h : SRow w x s) (hf : FitSt s) (hc : x.ql ≤ x.qc) (hw : WfSt s) :
    Calls Tryz.prog 18 #[sv x s, .string (bs nm)] w fun e w' => e = .returned (rv (usedByV s nm).1 (usedByV s nm).2) ∧ Below w.heap.size w w' := by
  have hmf : ∀ (fn : Fn) (first cap : Array Value) (w : World), (Instr.makeFunc fn first cap).run Tryz.prog w = .ok (.func fn first cap) w := fun _ _ _ _ => rfl
  have hql : x.ql ≤ 1048576 := by have := h.len.1; have := hf.1.1; omega
  have hal : x.al ≤ 1048576 := by have := h.len.2.1; have := hf.2.1.1; omega
  have hcl : x.cl ≤ 1048576 := by have := h.len.2.2.2; have := hf.2.2.2.1; omega
  obtain ⟨hs, hav, hh⟩ := h.2.1.heads
  have CQ := hide (fun wx (hb : Below w.heap.size w wx) => implQueuesOk_any x.qa x.ql x.qc s.qs wx (h.1.below hb) hql (fun q hq => (hf.1.2 q hq).1) hc)
  have CM := hide (fun wx (hb : Below w.heap.size w wx) => apps_ex x s hs wx (hav.below hb) hal (heads_wf hh hw.1))
  have CR := hide (fun wx (hb : Below w.heap.size w wx) (qu : List UInt8) => reaches_any x.qa x.ql x.qc s.qs qu nm wx (h.1.below hb) hql hc)
  have CU := hide (fun (bm n : Nat) (D : DataW Unit) wx (hb : Below w.heap.size w wx) (hown : wx.ownsMap Tryz.prog 69 appElem bm n D) (hk : KnownA hs (fun _ v => reachB s.qs v.queue nm) D) => usedHas_any bm (hasB hs (fun v => reachB s.qs v.queue nm)) x s wx (h.2.2.2.below hb) hcl
    (fun wy q hq hy => has_any bm n D hs (fun v => reachB s.qs v.queue nm) q wy (ownsMap_below hown hy) hk (hw.2 q hq)))
  have HV1 := hide (fun ho : queuesOk s.qs = true => usedL_congr (l := s.cs) (hasB_by hh ho nm))
  have HV2 := hide (fun ho : queuesOk s.qs = false => usedL_none (l := s.cs) (byQ_none ho nm))
  have HV := hide (show usedByV s nm = ((sumR (usedL (byQ s nm) s.cs)).1, (sumR (usedL (byQ s nm) s.cs)).2.1) from rfl)
  obtain ⟨⟨ux, uy⟩, hu⟩ : ∃ u, usedByV s nm = u := ⟨_, rfl⟩
  rw [hu] at HV ⊢
  obtain ⟨o, ho⟩ : ∃ o, queuesOk s.qs = o := ⟨_, rfl⟩
  rw [ho] at CQ HV1 HV2
  clear h hf hc hw hu ho hav hh
  obtain ⟨qa, ql, qc, aa, al, ac, ma, ml, mc, ca, cl, cc⟩ := x
  obtain ⟨qs, clock, epoch, next, serial, apps, ms, cs⟩ := s
  simp only at CQ CM CR CU HV1 HV2 HV hql hal hcl
  have HB0 := hide (capW_below w (svc ⟨qa, ql, qc, aa, al, ac, ma, ml, mc, ca, cl, cc⟩ ⟨qs, clock, epoch, next, serial, apps, ms, cs⟩))
  have V0 := hide (capW_var w (svc ⟨qa, ql, qc, aa, al, ac, ma, ml, mc, ca, cl, cc⟩ ⟨qs, clock, epoch, next, serial, apps, ms, cs⟩))
  have P0 := hide ((boxW_blk w (svc ⟨qa, ql, qc, aa, al, ac, ma, ml, mc, ca, cl, cc⟩ ⟨qs, clock, epoch, next, serial, apps, ms, cs⟩)).al (.cells #[.int .i64 0, .int .i64 0] 33))
  go_enter Tryz.func18, Tryz.ntmps18
  go_wp2_with fail
  refine (unhide CQ _ (unhide HB0)).mono ?_
  rintro e w1 ⟨rfl, hb⟩
  have HB1 := hide (below_on (unhide HB0) hb)
  have V1 := hide ((unhide V0).below hb)
  have P1 := hide ((unhide P0).below hb)
  clear hb HB0 V0 P0 CQ
  cases o with
  | false =>
    have hz := unhide HV
    rw [unhide HV2 (by first | rfl | trivial)] at hz
    simp only [sumR, sumFrom, Prod.mk.injEq] at hz
    obtain ⟨rfl, rfl⟩ := hz
    have V2 := unhide V1
    have t0 := V2.c0
    have t1 := V2.c1
    have f0 := V2.f 0
    have f1 := V2.f 1
    have k4 := V2.s0 (.int .i64 0)
    have k5 := V2.s1 (.int .i64 0) (.int .i64 0)
    clear V2
    go_wp2
    refine bodyPost_ret (v := rv 0 0) (by simp [results, Tryz.results18, go_sem, k4, k5]) rfl ⟨rfl, ?_⟩
    repeat (first | exact unhide HB1 | refine below_al ?_ _ | refine below_sc ?_ _ _ _ (by omega))
  | true =>
    have HE := hide (unhide HV1 (by first | rfl | trivial))
    have HVV := hide (show (ux, uy) = ((sumR (usedL (hasB hs (fun v => reachB qs v.queue nm)) cs)).1, (sumR (usedL (hasB hs (fun v => reachB qs v.queue nm)) cs)).2.1) by rw [unhide HE]; exact unhide HV)
    rw [show (sumR (usedL (hasB hs (fun v => reachB qs v.queue nm)) cs)).1 = ux from (congrArg Prod.fst (unhide HVV)).symm, show (sumR (usedL (hasB hs (fun v => reachB qs v.queue nm)) cs)).2.1 = uy from (congrArg Prod.snd (unhide HVV)).symm] at CU
    clear HV HV1 HV2 HE HVV
    obtain ⟨q0, q1, q2, q3, q4, q5, q6, q7⟩ : _ ∧ _ ∧ _ ∧ _ ∧ _ ∧ _ ∧ _ ∧ _ := ⟨(unhide P1).at 0, (unhide P1).at 1, (unhide P1).at 2, (unhide P1).at 3, (unhide P1).at 4, (unhide P1).at 5, (unhide P1).at 6, (unhide P1).at 7⟩
    simp at q0 q1 q2 q3 q4 q5 q6 q7
    have hpl := (unhide P1).lt
    have hvl := (unhide V1).lt
    go_wp2_with fail
    refine (unhide CM _ (unhide HB1)).mono ?_
    rintro e w2 ⟨bm, rfl, ⟨hbm, D0, hown, hkn⟩, hb⟩
    have HB2 := hide hb
    have HK0 := hide hkn
    clear q0 q1 q2 q3 q4 q5 q6 q7 hb hkn CM
    go_wp2_with (first
      | (at_range; refine wpList_range_own _ rfl _ 77 rfl 69 41 keyLaw Tryz.underlying77 _ bm hs.length D0 rfl hown ?_; intro w3 hrg0 hg0 hs0)
      | go_in)
    go_frame
    have hw12 : w1.heap.size ≤ w2.heap.size := (unhide HB2).size
    have HB3 := hide (show Below w1.heap.size w1 w3 from (unhide HB2).grown hg0 hw12 (fun k e => by cases e))
    have HRG0 := hide hrg0
    obtain ⟨r, hr⟩ : ∃ r, w2.heap.size = r := ⟨_, rfl⟩
    rw [hr] at HRG0 hw12 ⊢
    have hwa : w.heap.size ≤ w1.heap.size := (unhide HB1).size
    clear hrg0 hg0 hs0 HB2 hown hr
    go_loopw [6] (fun _ wr => ∃ (left : Lit → Bool) (cnt : Nat) (D : DataW Unit), Hid (wr.ranges Tryz.prog 69 appElem bm r hs.length D left cnt) ∧ Hid (KnownA hs (fun kl v => left kl || reachB qs v.queue nm) D) ∧ Hid (∀ z, left z = true → Maps.has D z = true) ∧ Hid (Below w1.heap.size w1 wr)) (fun _ wr => wr.rangeLeft bm r)
    case atStart => exact ⟨_, _, D0, HRG0, hide ⟨(unhide HK0).1, fun v kl h1 h2 => by have := (unhide HK0).2 v kl h1 h2; simp only at this ⊢; rw [this]; rfl⟩, hide (fun z h => h), HB3⟩
    case round =>
      obtain ⟨left, cnt, D, HRG, HKN, HLT, HBr⟩ := hrel
      have hrg := unhide HRG
      clear HRG0 HK0 HB3
      go_wp2_with (first
        | (at_next; refine wpList_next_ranges _ rfl _ rfl 69 keyLaw appElem (fun x : List UInt8 × Int => keyv x.1 x.2) avv (fun key kl hkey => key_shape hkey) (fun v y hv => appElem_shape hv) bm r hs.length D left cnt rfl hrg ?_ ?_)
        | go_in)
      · intro _ hl0
        have HKF := hide (show KnownA hs (fun _ v => reachB qs v.queue nm) D from ⟨(unhide HKN).1, fun v kl h1 h2 => by have := (unhide HKN).2 v kl h1 h2; simp only [hl0, Bool.false_or] at this; exact this⟩)
        have PB := (unhide P1).below (unhide HBr)
        obtain ⟨q0, q1, q2, q3, q4, q5, q6, q7⟩ : _ ∧ _ ∧ _ ∧ _ ∧ _ ∧ _ ∧ _ ∧ _ := ⟨PB.at 0, PB.at 1, PB.at 2, PB.at 3, PB.at 4, PB.at 5, PB.at 6, PB.at 7⟩
        simp at q0 q1 q2 q3 q4 q5 q6 q7
        have HVB := hide ((unhide V1).below (unhide HBr))
        have HBB := hide (below_on (unhide HB1) (unhide HBr))
        have HOW := hide hrg.owns
        clear HRG HKN HLT hrg hl0 PB CR
        go_wp2_with fail
        refine (unhide CU bm hs.length D _ (unhide HBB) (unhide HOW) (unhide HKF)).mono ?_
        rintro e w5 ⟨rfl, hb⟩
        have V2 := (unhide HVB).below hb
        have HB5 := hide (below_on (unhide HBB) hb)
        have t0 := V2.c0
        have t1 := V2.c1
        have f0 := V2.f 0
        have f1 := V2.f 1
        have k4 := V2.s0 (.int .i64 ux)
        have k5 := V2.s1 (.int .i64 ux) (.int .i64 uy)
        clear V2 hb q0 q1 q2 q3 q4 q5 q6 q7
        go_wp2
        refine bodyPost_ret (v := rv ux uy) (by simp [results, Tryz.results18, go_sem, k4, k5]) rfl ⟨rfl, ?_⟩
        repeat (first | exact unhide HB5 | refine below_al ?_ _ | refine below_sc ?_ _ _ _ (by omega))
      · rintro x1 x2 ⟨id, qu, zo, zl, zc⟩ kl y1 y2 w4 cnt1 hkey hlk hR hat hrg1 hlt hg1 hs1 hen
        obtain ⟨HFD, HKV⟩ : Hid (findA id hs = some ⟨id, qu, zo, zl, zc⟩) ∧ Hid (keyOf Tryz.prog 69 (keyv [] id) = some kl) := by
          obtain ⟨v, hf, hkv, hav⟩ := (unhide HKN).1 kl (unhide HLT kl hlk)
          rw [appElem_mk] at hR
          have e := ad_inj ((hav (.map [])).symm.trans ((hat (.map [])).trans (congrArg Prod.fst (Option.some.inj hR)).symm))
          subst e
          exact ⟨hide hf, hide hkv⟩
        have HKY := hide (show keyOf Tryz.prog 69 (keyv x1 x2) = some kl from hkey)
        have HR1 := hide hrg1
        have HLT1 := hide hlt
        have HB4 := hide (show Below w1.heap.size w1 w4 from (unhide HBr).grown hg1 (unhide HBr).size (fun k e => by cases e; omega))
        obtain ⟨b, hbb⟩ : ∃ b, reachB qs qu nm = b := ⟨_, rfl⟩
        have CRq := hide (fun wx (hb : Below w.heap.size w wx) => by have := unhide CR wx hb qu; rw [hbb] at this; exact this)
        have HBB := hide hbb
        have PB := (unhide P1).below (unhide HB4)
        have q0 := PB.at 0
        simp at q0
        have q0b := (PB.al (.cells #[.string (bs x1), .int .i64 x2] 69)).at 0
        have q0c := ((PB.al (.cells #[.string (bs x1), .int .i64 x2] 69)).al (.cells #[.int .i64 id, .string (bs qu), .slice zo zl zc] 41)).at 0
        simp at q0b q0c
        clear hkey hR hat hrg1 hlt hg1 hs1 hlk hbb PB CR CU
        go_wp2_with fail
        refine (unhide CRq _ ?_).mono ?_
        · exact below_al (below_al (below_on (unhide HB1) (unhide HB4)) _) _
        rintro e w5 ⟨rfl, hb⟩
        have HB5 := hide (below_on (below_al (below_al (Below.refl _ w4) (.cells #[.string (bs x1), .int .i64 x2] 69)) (.cells #[.int .i64 id, .string (bs qu), .slice zo zl zc] 41)) hb)
        have KB := ((blk_new w4 #[.string (bs x1), .int .i64 x2] 69).al (.cells #[.int .i64 id, .string (bs qu), .slice zo zl zc] 41)).below hb
        have z0 := KB.at 0
        have z1 := KB.at 1
        simp at z0 z1
        have HR5 := hide ((unhide HR1).kept (grownBy_below (grownBy_refl w4 none) (unhide HB5)) (by simp) (by simp))
        have HW5 := hide (show Below w1.heap.size w1 w5 from below_on (unhide HB4) (unhide HB5))
        clear hb KB CRq q0 q0b q0c hen HR1
        cases b with
        | true =>
          have HST := hide ((unhide HKN).stay (v := ⟨id, qu, zo, zl, zc⟩) (unhide HFD) (unhide HKV) (unhide HBB))
          go_wp2
          go_roundw
          case rel => exact ⟨_, cnt1, D, HR5, HST, hide (left_stay (unhide HLT)), HW5⟩
          case measure => rw [(unhide HR5).left_eq, hrg.left_eq]; exact unhide HLT1
        | false =>
          have HST := hide ((unhide HKN).strike (v := ⟨id, qu, zo, zl, zc⟩) (unhide HFD) (unhide HKV) (unhide HBB))
          have hrg5 := unhide HR5
          go_wp2_with (first
            | (at_delete; refine wpList_delete_ranges _ rfl _ _ 77 69 rfl 41 keyLaw Tryz.underlying77 _ bm r hs.length _ _ _ rfl hrg5 _ _ rfl (unhide HKY) ?_; intro w6 cnt2 hrg6 hle hturn; go_frame)
            | go_in)
          rw [strike_twice] at hrg6
          have HW6 := hide (show Below w1.heap.size w1 w6 from (unhide HW5).grown hturn.grown (unhide HW5).size (fun k e => by cases e; omega))
          have HR6 := hide hrg6
          have HLE := hide hle
          clear hturn hrg5 hrg6 hle
          go_roundw
          case rel => exact ⟨_, cnt2, _, HR6, HST, hide (left_strike (keyLaw.key (unhide HKY)) (unhide HLT)), HW6⟩
          case measure => rw [(unhide HR6).left_eq, hrg.left_eq]; have := unhide HLE; have := unhide HLT1; omega
end Go.Proofs.YtcplnodfcchdhaaGreat
