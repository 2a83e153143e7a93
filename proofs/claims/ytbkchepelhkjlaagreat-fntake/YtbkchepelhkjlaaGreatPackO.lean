/-
  Several texts of this claim in one: MachI, BackA, AppsI, HasI, FindAp, SubI (pack.py put them together); each says in its own remark what is proved.
-/
import Derived.Test.YtbkchepelhkjlaaGreatPackN
import Derived.Test.YtbkchepelhkjlaaGreatPackB
import Derived.Test.YtbkchepelhkjlaaGreatPackK
import Derived.Test.YtbkchepelhkjlaaGreatPackJ
/-
 The map of machines: what the program's machines answers; a walk over the dump.
-/
namespace Go.Proofs.YtbkchepelhkjlaaGreat
open Go.RowKit Go.Shelf Go.Maps
set_option linter.unusedVariables false
attribute [local go_sem] Oper.semAt_some

/-- behind the box, the map and its variable -/
def mapW (w : World) (c : Array Value) : World := ((w.alloc (.cells c 29)).alloc (.map #[] 0)).alloc (.cells #[.map (some (w.heap.size + 1))] 80)
theorem mapW_size (w : World) (c : Array Value) : (mapW w c).heap.size = w.heap.size + 1 + 1 + 1 := by simp only [mapW, al_size]
theorem mapW_below (w : World) (c : Array Value) : Below w.heap.size w (mapW w c) := below_al (below_al (below_al (Below.refl _ w) _) _) _
theorem mapW_own (w : World) (c : Array Value) : (mapW w c).ownsMap Tryz.prog 83 macElem (w.heap.size + 1) 0 (.map []) := by
 have := (World.ownsMap_made (w.alloc (.cells c 29)) Tryz.prog 83 macElem).alloc (.cells #[.map (some (w.heap.size + 1))] 80)
 rw [al_size] at this
 exact this
theorem mapW_var (w : World) (c : Array Value) : Blk (mapW w c) (w.heap.size + 1 + 1) #[.map (some (w.heap.size + 1))] 80 := by
 have := blk_new ((w.alloc (.cells c 29)).alloc (.map #[] 0)) #[.map (some (w.heap.size + 1))] 80
 rw [al_size, al_size] at this
 exact this
/-- the map holds the machines that were gone by, the variable holds the map -/
def MapInv (w : World) (l : List Mac) (W : World) : Prop := (∃ D, W.ownsMap Tryz.prog 83 macElem (w.heap.size + 1) l.length D ∧ KnownM l D) ∧ Blk W (w.heap.size + 1 + 1) #[.map (some (w.heap.size + 1))] 80
theorem MapInv.grown {w W W' : World} {l : List Mac} {row : Option Nat} (h : MapInv w l W) (hg : W.grownBy W' row) (hr : ∀ r, row = some r → w.heap.size + 1 + 1 < r) : MapInv w l W' := by
 obtain ⟨⟨D, h1, h2⟩, h3⟩ := h
 exact ⟨⟨D, h1.kept hg (fun e => by have := hr _ e.symm; omega), h2⟩, (hg.block _ h3.lt (fun e => by have := hr _ e.symm; omega)).trans h3⟩
theorem MapInv.below {w W W' : World} {l : List Mac} (h : MapInv w l W) (hb : Below W.heap.size W W') : MapInv w l W' := h.grown (grownBy_below (grownBy_refl W none) hb) (fun r e => by cases e)

set_option maxRecDepth 100000 in
set_option maxHeartbeats 4000000 in
theorem machines_any (x : Sls) (s : St) (w : World) (h : MacRow w x.ma x.ml s.ms) (hl : x.ml ≤ 1048576) (hn : ∀ m ∈ s.ms, m.name.length ≤ 1048576) :
  Calls Tryz.prog 49 #[sv x s] w fun e w' => e = .returned (.map (some (w.heap.size + 1))) ∧ MapInv w s.ms w' ∧ Below w.heap.size w w' := by
 obtain ⟨qa, ql, qc, aa, al, ac, ma, ml, mc, ca, cl, cc⟩ := x
 obtain ⟨qs, clock, epoch, next, serial, apps, ms, cs⟩ := s
 simp only at h hl hn ⊢
 have HR := hide h
 have HL := hide h.1
 have HN := hide hn
 have hmx : Tryz.prog.follows .mixedOrders = true := by kernel_rfl
 have hmm := fun (t : TypeId) (wx : World) => run_makeMap (P := Tryz.prog) t wx
 clear h hn
 refine (callsIn_wide (n := 3)).1 ?_
 refine callsIn_of_wp_marks Tryz.func49 rfl trivial ?_ rfl
 simp only [Tryz.ntmps49, List.size_toArray, List.length_cons, List.length_nil, Nat.reduceAdd, Nat.reduceSub, Array.replicate_succ, Array.replicate_zero, List.push_toArray, List.append_toArray, List.nil_append, List.cons_append]
 gi_wp2_with fail
 first | refine ⟨trivial, ?_⟩ | skip
 first | refine ⟨(by intro e; cases e), ?_⟩ | skip
 refine (callsIn_wide.2 (backM_any (.slice ma ml mc) _ rfl)).mono ?_
 rintro e w4 ⟨rfl, rfl⟩
 gi_wp2
 have hsz0 := al_size (mapW w (svc ⟨qa, ql, qc, aa, al, ac, ma, ml, mc, ca, cl, cc⟩ ⟨qs, clock, epoch, next, serial, apps, ms, cs⟩)) (.cells #[.slice ma ml mc] 26)
 rw [mapW_size] at hsz0
 have hB0 := below_al (mapW_below w (svc ⟨qa, ql, qc, aa, al, ac, ma, ml, mc, ca, cl, cc⟩ ⟨qs, clock, epoch, next, serial, apps, ms, cs⟩)) (.cells #[.slice ma ml mc] 26)
 have hI0 := MapInv.below (w := w) (l := []) ⟨⟨_, mapW_own w (svc ⟨qa, ql, qc, aa, al, ac, ma, ml, mc, ca, cl, cc⟩ ⟨qs, clock, epoch, next, serial, apps, ms, cs⟩), knownM_empty⟩, mapW_var w _⟩ (below_al (Below.refl _ _) (.cells #[.slice ma ml mc] 26))
 have hBs := (blk_new (mapW w (svc ⟨qa, ql, qc, aa, al, ac, ma, ml, mc, ca, cl, cc⟩ ⟨qs, clock, epoch, next, serial, apps, ms, cs⟩)) #[.slice ma ml mc] 26).at 0
 rw [mapW_size] at hBs
 obtain ⟨W0, hW0⟩ : ∃ W0, (mapW w (svc ⟨qa, ql, qc, aa, al, ac, ma, ml, mc, ca, cl, cc⟩ ⟨qs, clock, epoch, next, serial, apps, ms, cs⟩)).alloc (.cells #[.slice ma ml mc] 26) = W0 := ⟨_, rfl⟩
 rw [hW0] at hsz0 hB0 hI0 hBs
 have HC := hide (backM_stops (3 - 1) (w.heap.size + 1 + 1 + 1) ml mc ma ms W0 hBs ((unhide HR).below hB0) hl (unhide HN))
 show Code.wpIn _ _ _ _ _ _ ((mapW w (svc ⟨qa, ql, qc, aa, al, ac, ma, ml, mc, ca, cl, cc⟩ ⟨qs, clock, epoch, next, serial, apps, ms, cs⟩)).alloc (.cells #[.slice ma ml mc] 26))
 rw [hW0]
 clear hW0 hBs
 refine wpIn_rangeFunc_ownH rfl (by omega) (gf := 149) (lb := #[.pointer (some ⟨w.heap.size + 1 + 1 + 1, 0, none⟩)]) rfl trivial (enters_of Tryz.func149 (by kernel_rfl) rfl)
  (unhide HC) kpa_t kpa_b (Below.refl _ _) (fun _ => rfl)
  (fun pre W => MapInv w ((pre.map (fun x : Int × NMac => x.2.1)).reverse) W ∧ Below w.heap.size w W)
  (fun _ _ _ => False)
  (OwnFrom.and (fun s X Y row hs hg hr => MapInv.grown hs hg (fun r e => by have := (hr r e).1; omega)) (ownFrom_below (Nat.le_refl _) (by omega)))
  (fun _ _ _ _ _ hs _ _ => hs)
  ⟨hI0, hB0⟩
  (fun x a' W => ∃ Bx, w.heap.size + 1 + 1 < Bx ∧ Blk W Bx #[.string (bs x.2.1.name), .int .i64 x.2.1.mem, .int .i64 x.2.1.cpu, .int .i64 x.2.1.seen] 56 ∧ a' = { tmps := #[sv ⟨qa, ql, qc, aa, al, ac, ma, ml, mc, ca, cl, cc⟩ ⟨qs, clock, epoch, next, serial, apps, ms, cs⟩, .pointer (some ⟨w.heap.size, 0, none⟩), .map none, .pointer (some ⟨w.heap.size + 1 + 1, 0, none⟩), undef, .pointer (some ⟨Bx, 0, none⟩), .map (some (w.heap.size + 1)), .pointer (some ⟨w.heap.size, 6, none⟩), .slice ma ml mc, .func (.func 149) #[] #[.pointer (some ⟨w.heap.size + 1 + 1 + 1, 0, none⟩)], .int .i64 x.1, macv x.2.1, undef, undef, undef, undef, undef], defers := [] })
  (fun x a' _ X Y row hs hg hr => by
   obtain ⟨Bx, h1, h2, h3⟩ := hs
   refine ⟨Bx, h1, (hg.block Bx h2.lt (fun e => ?_)).trans h2, h3⟩
   obtain ⟨_, o, ho, hc⟩ := hr Bx e.symm
   rw [show X.heap[Bx]? = _ from h2] at ho
   cases ho
   cases hc)
  ?assign ?body ?done ?stop
 case assign =>
  rintro lp pre ⟨i, ⟨⟨nm, me, cp, se⟩, hnm⟩⟩ W K ⟨hI, hB⟩ hK
  have hlt := hI.2.lt
  gi_wp2
  exact hK _ _ ((KeepsOthers.alloc _ _).from _) (kpa_below (below_al (Below.refl _ W) _)) ⟨hI.below (below_al (Below.refl _ W) _), below_al hB _⟩ ⟨W.heap.size, hlt, blk_new W _ _, rfl⟩
 case body =>
  rintro lp pre ⟨i, ⟨⟨nm, me, cp, se⟩, hnm⟩⟩ a' W hlp _ ⟨hI, hB⟩ ⟨Bx, hBx, hX, rfl⟩ hlt
  have HI := hide hI
  have HX := hide hX
  have HB := hide hB
  have x0 := hX.at 0
  have x1 := hX.at 1
  have x2 := hX.at 2
  have x3 := hX.at 3
  have v0 := hI.2.at 0
  simp at x0 x1 x2 x3 v0
  have hpl : pre.length < 1048576 := by have := unhide HL; omega
  clear hI hX hB
  have hnm' : nm.length ≤ 1048576 := hnm
  obtain ⟨kl, hkey⟩ := keyKey (nm := nm) (k := 0) (by omega) (by decide)
  have HKEY := hide hkey
  clear hkey
  gi_wp2_with fail
  gi_region_with_o (first | (first | refine ⟨trivial, ?_⟩ | skip); (first | refine ⟨(by intro e; cases e), ?_⟩ | skip); refine (CallsIn.inRound lp (callsIn_wide.2 (macKey_any ⟨nm, me, cp, se⟩ _))).mono ?_; rintro e wc ⟨rfl, hbc⟩; have HW3 := hide (below_on (Below.refl _ W).drew hbc); have y0 := ((unhide HX).below (unhide HW3)).at 0; have y1 := ((unhide HX).below (unhide HW3)).at 1; have y2 := ((unhide HX).below (unhide HW3)).at 2; have y3 := ((unhide HX).below (unhide HW3)).at 3; have u0 := ((unhide HI).below (unhide HW3)).2.at 0; simp at y0 y1 y2 y3 u0; obtain ⟨D, hown, hk⟩ := ((unhide HI).below (unhide HW3)).1; obtain ⟨w4, hrun, hown2, hgrow2⟩ := hown.update keyLaw Tryz.underlying80 (by unfold maxLen; simp; omega) (unhide HKEY) (macElem_mk ⟨nm, me, cp, se⟩); have HFIN := hide (And.intro hown2 (And.intro hgrow2 (KnownM.put (m := ⟨nm, me, cp, se⟩) hk hown.isMap (unhide HKEY)))); clear hown2 hgrow2 hk hown hbc)
  all_goals gi_wp2
  all_goals
   obtain ⟨f1, f2, f3⟩ := unhide HFIN
   have hbelow := (unhide HW3)
   have hv4 := (f2.block _ ((unhide HI).below hbelow).2.lt (by simp)).trans ((unhide HI).below hbelow).2
   have hmi : MapInv w (⟨nm, me, cp, se⟩ :: (pre.map (fun x : Int × NMac => x.2.1)).reverse) w4 := ⟨⟨_, f1, f3⟩, hv4⟩
   refine ⟨((keepsO_below hbelow).from _).trans (KeepsFrom.of_grownBy f2 (fun j e => by cases e; omega)), kpa_t (kpa_below hbelow) (fun k o ho hc => (f2.block k (lt_of_block ho) (fun e => ?_)).trans ho), by simpa using hmi, ?_⟩
   ·obtain ⟨D', hD', _⟩ := ((unhide HI).below hbelow).1
    obtain ⟨es, ck, hm', _⟩ := hD'
    obtain rfl : k = w.heap.size + 1 := by simpa using e
    rw [hm'] at ho
    cases ho
    cases hc
   ·exact ((unhide HB).trans (hbelow.mono (unhide HB).size)).grown f2 (by have := (unhide HB).size; have := hbelow.size; omega) (fun k e => by cases e; omega)
 case done =>
  rintro D ys W hD hys ⟨hI, hB⟩ hK
  rw [unhide hys, List.reverse_reverse] at hI
  have v0 := hI.2.at 0
  simp at v0
  have HI := hide hI
  have HB := hide hB
  clear hI hB
  gi_wp2
  refine ⟨by simp, .inl ⟨_, _, rfl, run_takeDeferred hK, ?_⟩⟩
  exact ⟨_, results_tmp rfl _ _ _, rfl, (unhide HI).grown (grownBy_putObj' W D _) (fun r e => by cases e; omega), (unhide HB).trans (belowK_b (w := w) (Nat.le_refl _) W D _ _ (by omega) hK rfl rfl)⟩
 case stop =>
  rintro D c pre W _ _ h _
  exact h.elim
/-- the same, where the map stands left open -/
theorem machines_ex (x : Sls) (s : St) (w : World) (h : MacRow w x.ma x.ml s.ms) (hl : x.ml ≤ 1048576) (hn : ∀ m ∈ s.ms, m.name.length ≤ 1048576) :
  Calls Tryz.prog 49 #[sv x s] w fun e w' => ∃ bm, e = .returned (.map (some bm)) ∧ (w.heap.size ≤ bm ∧ ∃ D, w'.ownsMap Tryz.prog 83 macElem bm s.ms.length D ∧ KnownM s.ms D) ∧ Below w.heap.size w w' :=
 (machines_any x s w h hl hn).mono fun e w' ⟨h1, h2, h3⟩ => ⟨_, h1, ⟨by omega, h2.1⟩, h3⟩
end Go.Proofs.YtbkchepelhkjlaaGreat

/-
 The library's Backward over a list of applications: what its function that takes a yield hands on; walks over the dump.
-/
namespace Go.Proofs.YtbkchepelhkjlaaGreat
open Go.RowKit Go.Shelf
set_option linter.unusedVariables false
attribute [local go_sem] Oper.semAt_some

/-- an application whose number is one -/
abbrev NAV := { m : AV // (Lit.int .i64 m.id).wf = true }
theorem AVRow.kpa {W W' : World} {ao : Option Addr} {len : Nat} {l : List AV} (h : AVRow W ao len l) (k : KpA W W') : AVRow W' ao len l := by
 obtain ⟨h1, h2⟩ := h
 refine ⟨h1, ?_⟩
 rcases h2 with h2 | ⟨b, off, h3, h4⟩
 ·exact .inl h2
 ·exact .inr ⟨b, off, h3, fun i hi => let ⟨a, b, c⟩ := h4 i hi; ⟨k.cell a, k.cell b, k.cell c⟩⟩

set_option maxRecDepth 100000 in
set_option maxHeartbeats 4000000 in
theorem backA_some (n l Bs len cap : Nat) (ao : Option Addr) (ms : List AV) (J Jx : List (Int × NAV) → World → Prop)
  (hY : ∀ pre x W1, J pre W1 → pre.length < ms.length → YieldAt Fence.wide (n - 1) Tryz.prog l #[.int .i64 x.1, avv x.2.1] W1 fun e W' =>
   (e = .returned (.bool true) ∧ J (pre ++ [x]) W' ∧ KpA W1 W') ∨ (e = .returned (.bool false) ∧ Jx (pre ++ [x]) W'))
  (W : World) (hBs : W.cell? ⟨Bs, 0, none⟩ = some (.slice ao len cap)) (hg : AVRow W ao len ms) (hl : len ≤ 1048576) (hN : ∀ m ∈ ms, (Lit.int .i64 m.id).wf = true) (h0 : J [] W) :
  CallsIn Fence.wide n Tryz.prog 150 #[.func (.yield l) #[] #[], .pointer (some ⟨Bs, 0, none⟩)] W fun e W' => (∃ v, e = .returned v) ∧
   ((∃ ys : List (Int × NAV), Hid (ys.map (fun x : Int × NAV => x.2.1) = ms.reverse) ∧ J ys W') ∨ (∃ pre, Jx pre W')) := by
 have HY := hide hY
 have HBs := hide hBs
 have HG := hide hg
 have HLEN := hide hg.1
 have H0 := hide h0
 have HNN := hide hN
 clear hY hg h0 hN
 refine callsIn_of_wp Tryz.func150 rfl trivial ?_ rfl
 simp only [Tryz.ntmps150, List.size_toArray, List.length_cons, List.length_nil, Nat.reduceAdd, Nat.reduceSub, Array.replicate_succ, Array.replicate_zero, List.push_toArray, List.append_toArray, List.nil_append, List.cons_append]
 gi_wp2
 clear hBs
 gi_loopw [3] (fun i wr => ∃ (k : Nat) (pre : List (Int × NAV)), k ≤ len ∧ i = .int .i64 ((k : Int) - 1) ∧ Hid (pre.length + k = ms.length) ∧ Hid (pre.map (fun x : Int × NAV => x.2.1) = (ms.drop k).reverse) ∧ Hid (J pre wr) ∧ Hid (wr.cell? ⟨Bs, 0, none⟩ = some (.slice ao len cap)) ∧ Hid (AVRow wr ao len ms)) (fun i _ => (intOf i + 1).toNat)
 case atStart => exact ⟨len, [], Nat.le_refl _, by go_num, hide (by have := unhide HLEN; simp; omega), hide (by rw [List.drop_of_length_le (by have := unhide HLEN; omega)]; rfl), H0, HBs, HG⟩
 case round =>
  obtain ⟨k, pre, hk, rfl, HL, HM, HJ, HB, HGr⟩ := hrel
  cases k with
  | zero =>
   gi_wp2
   go_end0
   exact ⟨⟨_, rfl⟩, .inl ⟨pre, hide (by rw [unhide HM]; rfl), unhide HJ⟩⟩
  | succ j =>
   have hj : j < len := by omega
   obtain ⟨b, off, rfl, hq⟩ := (unhide HGr).at hj
   have hjm : j < ms.length := by have := unhide HLEN; omega
   obtain ⟨c0, c1, c2⟩ := hq hjm
   have hbox := unhide HB
   have hel := unhide HNN ms[j] (List.getElem_mem _)
   obtain ⟨fn, tmps, assign, body, hy, hR⟩ := unhide HY pre ((j : Int), ⟨ms[j], hel⟩) wr (unhide HJ) (by have := unhide HL; omega)
   have HRR := hide hR
   have HM2 := hide (show (pre ++ [((j : Int), (⟨ms[j], hel⟩ : NAV))]).map (fun x : Int × NAV => x.2.1) = (ms.drop j).reverse by rw [List.map_append, unhide HM, List.drop_eq_getElem_cons hjm, List.reverse_cons]; rfl)
   have hij : ((j + 1 : Nat) : Int) - 1 = (j : Int) := by omega
   obtain ⟨y, hyy⟩ : ∃ y : NAV, (⟨ms[j], hel⟩ : NAV) = y := ⟨_, rfl⟩
   have hy1 : ms[j] = y.1 := by rw [← hyy]
   rw [hyy] at hy HRR HM2
   rw [hy1] at c0 c1 c2
   obtain ⟨⟨id, qu, zo, zl, zc⟩, hyn⟩ := y
   simp only at hy c0 c1 c2
   rw [hij]
   have j0 : (0 : Int) ≤ j := by omega
   have j1 : (j : Int) < len := by omega
   clear hR hyy hy1 hij HM hq hjm hel
   gi_wp2
   refine ⟨(by intro e; cases e), ?_⟩
   refine (unhide HRR).mono ?_
   rintro e W3 (⟨rfl, hJ3, hk3⟩ | ⟨rfl, hJx3⟩)
   ·have HB3 := hide (hk3.cell (unhide HB))
    have HG3 := hide ((unhide HGr).kpa hk3)
    have HJ3 := hide hJ3
    clear hk3 hJ3 hbox hy HRR c0 c1 c2
    gi_wp2
    go_roundw
    case rel => exact ⟨j, pre ++ [((j : Int), ⟨⟨id, qu, zo, zl, zc⟩, hyn⟩)], by omega, by go_num, hide (by have := unhide HL; simp; omega), HM2, HJ3, HB3, HG3⟩
    case measure => simp [intOf]
   ·gi_wp2
    refine bodyPost_ret (results_none rfl _ _ _) rfl ?_
    exact ⟨⟨_, rfl⟩, .inr ⟨_, hJx3⟩⟩

theorem backA_stops (n Bs len cap : Nat) (ao : Option Addr) (ms : List AV) (w : World) (hBs : w.cell? ⟨Bs, 0, none⟩ = some (.slice ao len cap)) (hrow : AVRow w ao len ms) (hl : len ≤ 1048576) (hN : ∀ m ∈ ms, (Lit.int .i64 m.id).wf = true) :
  SeqStopsK Fence.wide n Tryz.prog 150 #[.pointer (some ⟨Bs, 0, none⟩)] (fun x : Int × NAV => #[.int .i64 x.1, avv x.2.1]) KpA (fun ys => Hid (ys.map (fun x : Int × NAV => x.2.1) = ms.reverse)) (fun _ => True) ms.length w := by
 intro l J Jx W hW hJ hJx hY h0
 refine (backA_some n l Bs len cap ao ms J Jx hY W ((hW.cell (cell_lt hBs)).trans hBs) (hrow.below hW) hl hN h0).mono ?_
 rintro e W' ⟨he, ⟨ys, h1, h2⟩ | ⟨pre, h2⟩⟩
 ·exact ⟨he, .inl ⟨ys, h1, h2⟩⟩
 ·exact ⟨he, .inr ⟨pre, trivial, h2⟩⟩

set_option maxHeartbeats 1000000 in
theorem backA_any (v : Value) (w : World) (hv : v.oneCell' = true) :
  Calls Tryz.prog 107 #[v] w fun e w' => e = .returned (.func (.func 150) #[] #[.pointer (some ⟨w.heap.size, 0, none⟩)]) ∧ w.alloc (.cells #[v] 25) = w' := by
 have hmf : ∀ (fn : Fn) (first cap : Array Value) (w : World), (Instr.makeFunc fn first cap).run Tryz.prog w = .ok (.func fn first cap) w := fun _ _ _ _ => rfl
 go_enter Tryz.func107, Tryz.ntmps107
 go_wp2
 go_ret
 exact ⟨rfl, rfl⟩

set_option maxHeartbeats 1000000 in
theorem appKey_any (m : AV) (w : World) :
  Calls Tryz.prog 108 #[avv m] w fun e w' => e = .returned (.agg #[.string (bs []), .int .i64 m.id]) ∧ Below w.heap.size w w' := by
 obtain ⟨id, qu, zo, zl, zc⟩ := m
 go_enter Tryz.func108, Tryz.ntmps108
 go_wp2
 refine bodyPost_ret (v := .agg #[.string (bs []), .int .i64 id]) (by simp [results, Tryz.results108, go_sem]; rfl) rfl ⟨rfl, ?_⟩
 repeat (first | exact Below.refl _ _ | refine below_al ?_ _ | refine Below.drew ?_ | refine below_sc ?_ _ _ _ (by omega))
end Go.Proofs.YtbkchepelhkjlaaGreat

/-
 The map of applications: what the program's apps answers; a walk over the dump.
-/
namespace Go.Proofs.YtbkchepelhkjlaaGreat
open Go.RowKit Go.Shelf Go.Maps
set_option linter.unusedVariables false
attribute [local go_sem] Oper.semAt_some

/-- behind the box, the map and its variable -/
def apmW (w : World) (c : Array Value) : World := ((w.alloc (.cells c 29)).alloc (.map #[] 0)).alloc (.cells #[.map (some (w.heap.size + 1))] 89)
theorem apmW_size (w : World) (c : Array Value) : (apmW w c).heap.size = w.heap.size + 1 + 1 + 1 := by simp only [apmW, al_size]
theorem apmW_below (w : World) (c : Array Value) : Below w.heap.size w (apmW w c) := below_al (below_al (below_al (Below.refl _ w) _) _) _
theorem apmW_own (w : World) (c : Array Value) : (apmW w c).ownsMap Tryz.prog 83 appElem (w.heap.size + 1) 0 (.map []) := by
 have := (World.ownsMap_made (w.alloc (.cells c 29)) Tryz.prog 83 appElem).alloc (.cells #[.map (some (w.heap.size + 1))] 89)
 rw [al_size] at this
 exact this
theorem apmW_var (w : World) (c : Array Value) : Blk (apmW w c) (w.heap.size + 1 + 1) #[.map (some (w.heap.size + 1))] 89 := by
 have := blk_new ((w.alloc (.cells c 29)).alloc (.map #[] 0)) #[.map (some (w.heap.size + 1))] 89
 rw [al_size, al_size] at this
 exact this
/-- the map holds the machines that were gone by, the variable holds the map -/
def ApmInv (w : World) (l : List AV) (W : World) : Prop := (∃ D, W.ownsMap Tryz.prog 83 appElem (w.heap.size + 1) l.length D ∧ KnownA l allA D) ∧ Blk W (w.heap.size + 1 + 1) #[.map (some (w.heap.size + 1))] 89
theorem ApmInv.grown {w W W' : World} {l : List AV} {row : Option Nat} (h : ApmInv w l W) (hg : W.grownBy W' row) (hr : ∀ r, row = some r → w.heap.size + 1 + 1 < r) : ApmInv w l W' := by
 obtain ⟨⟨D, h1, h2⟩, h3⟩ := h
 exact ⟨⟨D, h1.kept hg (fun e => by have := hr _ e.symm; omega), h2⟩, (hg.block _ h3.lt (fun e => by have := hr _ e.symm; omega)).trans h3⟩
theorem ApmInv.below {w W W' : World} {l : List AV} (h : ApmInv w l W) (hb : Below W.heap.size W W') : ApmInv w l W' := h.grown (grownBy_below (grownBy_refl W none) hb) (fun r e => by cases e)

set_option maxRecDepth 100000 in
set_option maxHeartbeats 4000000 in
theorem apps_any (x : Sls) (s : St) (hs : List AV) (w : World) (h : AVRow w x.aa x.al hs) (hl : x.al ≤ 1048576) (hn : ∀ m ∈ hs, (Lit.int .i64 m.id).wf = true) :
  Calls Tryz.prog 56 #[sv x s] w fun e w' => e = .returned (.map (some (w.heap.size + 1))) ∧ ApmInv w hs w' ∧ Below w.heap.size w w' := by
 obtain ⟨qa, ql, qc, aa, al, ac, ma, ml, mc, ca, cl, cc⟩ := x
 obtain ⟨qs, clock, epoch, next, serial, apps, ms, cs⟩ := s
 simp only at h hl
 have HR := hide h
 have HL := hide h.1
 have HN := hide hn
 have hmx : Tryz.prog.follows .mixedOrders = true := by kernel_rfl
 have hmm := fun (t : TypeId) (wx : World) => run_makeMap (P := Tryz.prog) t wx
 clear h hn
 refine (callsIn_wide (n := 3)).1 ?_
 refine callsIn_of_wp_marks Tryz.func56 rfl trivial ?_ rfl
 simp only [Tryz.ntmps56, List.size_toArray, List.length_cons, List.length_nil, Nat.reduceAdd, Nat.reduceSub, Array.replicate_succ, Array.replicate_zero, List.push_toArray, List.append_toArray, List.nil_append, List.cons_append]
 gi_wp2_with fail
 first | refine ⟨trivial, ?_⟩ | skip
 first | refine ⟨(by intro e; cases e), ?_⟩ | skip
 refine (callsIn_wide.2 (backA_any (.slice aa al ac) _ rfl)).mono ?_
 rintro e w4 ⟨rfl, rfl⟩
 gi_wp2
 have hsz0 := al_size (apmW w (svc ⟨qa, ql, qc, aa, al, ac, ma, ml, mc, ca, cl, cc⟩ ⟨qs, clock, epoch, next, serial, apps, ms, cs⟩)) (.cells #[.slice aa al ac] 25)
 rw [apmW_size] at hsz0
 have hB0 := below_al (apmW_below w (svc ⟨qa, ql, qc, aa, al, ac, ma, ml, mc, ca, cl, cc⟩ ⟨qs, clock, epoch, next, serial, apps, ms, cs⟩)) (.cells #[.slice aa al ac] 25)
 have hI0 := ApmInv.below (w := w) (l := []) ⟨⟨_, apmW_own w (svc ⟨qa, ql, qc, aa, al, ac, ma, ml, mc, ca, cl, cc⟩ ⟨qs, clock, epoch, next, serial, apps, ms, cs⟩), knownA_empty⟩, apmW_var w _⟩ (below_al (Below.refl _ _) (.cells #[.slice aa al ac] 25))
 have hBs := (blk_new (apmW w (svc ⟨qa, ql, qc, aa, al, ac, ma, ml, mc, ca, cl, cc⟩ ⟨qs, clock, epoch, next, serial, apps, ms, cs⟩)) #[.slice aa al ac] 25).at 0
 rw [apmW_size] at hBs
 obtain ⟨W0, hW0⟩ : ∃ W0, (apmW w (svc ⟨qa, ql, qc, aa, al, ac, ma, ml, mc, ca, cl, cc⟩ ⟨qs, clock, epoch, next, serial, apps, ms, cs⟩)).alloc (.cells #[.slice aa al ac] 25) = W0 := ⟨_, rfl⟩
 rw [hW0] at hsz0 hB0 hI0 hBs
 have HC := hide (backA_stops (3 - 1) (w.heap.size + 1 + 1 + 1) al ac aa hs W0 hBs ((unhide HR).below hB0) hl (unhide HN))
 show Code.wpIn _ _ _ _ _ _ ((apmW w (svc ⟨qa, ql, qc, aa, al, ac, ma, ml, mc, ca, cl, cc⟩ ⟨qs, clock, epoch, next, serial, apps, ms, cs⟩)).alloc (.cells #[.slice aa al ac] 25))
 rw [hW0]
 clear hW0 hBs
 refine wpIn_rangeFunc_ownH rfl (by omega) (gf := 150) (lb := #[.pointer (some ⟨w.heap.size + 1 + 1 + 1, 0, none⟩)]) rfl trivial (enters_of Tryz.func150 (by kernel_rfl) rfl)
  (unhide HC) kpa_t kpa_b (Below.refl _ _) (fun _ => rfl)
  (fun pre W => ApmInv w ((pre.map (fun x : Int × NAV => x.2.1)).reverse) W ∧ Below w.heap.size w W)
  (fun _ _ _ => False)
  (OwnFrom.and (fun s X Y row hs hg hr => ApmInv.grown hs hg (fun r e => by have := (hr r e).1; omega)) (ownFrom_below (Nat.le_refl _) (by omega)))
  (fun _ _ _ _ _ hs _ _ => hs)
  ⟨hI0, hB0⟩
  (fun x a' W => ∃ Bx, w.heap.size + 1 + 1 < Bx ∧ Blk W Bx #[.int .i64 x.2.1.id, .string (bs x.2.1.queue), .slice x.2.1.ao x.2.1.len x.2.1.cap] 41 ∧ a' = { tmps := #[sv ⟨qa, ql, qc, aa, al, ac, ma, ml, mc, ca, cl, cc⟩ ⟨qs, clock, epoch, next, serial, apps, ms, cs⟩, .pointer (some ⟨w.heap.size, 0, none⟩), .map none, .pointer (some ⟨w.heap.size + 1 + 1, 0, none⟩), undef, .pointer (some ⟨Bx, 0, none⟩), .map (some (w.heap.size + 1)), .pointer (some ⟨w.heap.size, 5, none⟩), .slice aa al ac, .func (.func 150) #[] #[.pointer (some ⟨w.heap.size + 1 + 1 + 1, 0, none⟩)], .int .i64 x.1, avv x.2.1, undef, undef, undef, undef, undef], defers := [] })
  (fun x a' _ X Y row hs hg hr => by
   obtain ⟨Bx, h1, h2, h3⟩ := hs
   refine ⟨Bx, h1, (hg.block Bx h2.lt (fun e => ?_)).trans h2, h3⟩
   obtain ⟨_, o, ho, hc⟩ := hr Bx e.symm
   rw [show X.heap[Bx]? = _ from h2] at ho
   cases ho
   cases hc)
  ?assign ?body ?done ?stop
 case assign =>
  rintro lp pre ⟨i, ⟨⟨id, qu, zo, zl, zc⟩, hnm⟩⟩ W K ⟨hI, hB⟩ hK
  have hlt := hI.2.lt
  gi_wp2
  exact hK _ _ ((KeepsOthers.alloc _ _).from _) (kpa_below (below_al (Below.refl _ W) _)) ⟨hI.below (below_al (Below.refl _ W) _), below_al hB _⟩ ⟨W.heap.size, hlt, blk_new W _ _, rfl⟩
 case body =>
  rintro lp pre ⟨i, ⟨⟨id, qu, zo, zl, zc⟩, hnm⟩⟩ a' W hlp _ ⟨hI, hB⟩ ⟨Bx, hBx, hX, rfl⟩ hlt
  have HI := hide hI
  have HX := hide hX
  have HB := hide hB
  have x0 := hX.at 0
  have x1 := hX.at 1
  have x2 := hX.at 2
  have v0 := hI.2.at 0
  simp at x0 x1 x2 v0
  have hpl : pre.length < 1048576 := by have := unhide HL; omega
  clear hI hX hB
  obtain ⟨kl, hkey⟩ := keyKey (nm := []) (k := id) (by decide) hnm
  have HKEY := hide hkey
  clear hkey
  gi_wp2_with fail
  gi_region_with_o (first | (first | refine ⟨trivial, ?_⟩ | skip); (first | refine ⟨(by intro e; cases e), ?_⟩ | skip); refine (CallsIn.inRound lp (callsIn_wide.2 (appKey_any ⟨id, qu, zo, zl, zc⟩ _))).mono ?_; rintro e wc ⟨rfl, hbc⟩; have HW3 := hide (below_on (Below.refl _ W).drew hbc); have y0 := ((unhide HX).below (unhide HW3)).at 0; have y1 := ((unhide HX).below (unhide HW3)).at 1; have y2 := ((unhide HX).below (unhide HW3)).at 2; have u0 := ((unhide HI).below (unhide HW3)).2.at 0; simp at y0 y1 y2 u0; obtain ⟨D, hown, hk⟩ := ((unhide HI).below (unhide HW3)).1; obtain ⟨w4, hrun, hown2, hgrow2⟩ := hown.update keyLaw Tryz.underlying89 (by unfold maxLen; simp; omega) (unhide HKEY) (appElem_mk ⟨id, qu, zo, zl, zc⟩); have HFIN := hide (And.intro hown2 (And.intro hgrow2 (KnownA.put (m := ⟨id, qu, zo, zl, zc⟩) hk hown.isMap (unhide HKEY)))); clear hown2 hgrow2 hk hown hbc)
  all_goals gi_wp2
  all_goals
   obtain ⟨f1, f2, f3⟩ := unhide HFIN
   have hbelow := (unhide HW3)
   have hv4 := (f2.block _ ((unhide HI).below hbelow).2.lt (by simp)).trans ((unhide HI).below hbelow).2
   have hmi : ApmInv w (⟨id, qu, zo, zl, zc⟩ :: (pre.map (fun x : Int × NAV => x.2.1)).reverse) w4 := ⟨⟨_, f1, f3⟩, hv4⟩
   refine ⟨((keepsO_below hbelow).from _).trans (KeepsFrom.of_grownBy f2 (fun j e => by cases e; omega)), kpa_t (kpa_below hbelow) (fun k o ho hc => (f2.block k (lt_of_block ho) (fun e => ?_)).trans ho), by simpa using hmi, ?_⟩
   ·obtain ⟨D', hD', _⟩ := ((unhide HI).below hbelow).1
    obtain ⟨es, ck, hm', _⟩ := hD'
    obtain rfl : k = w.heap.size + 1 := by simpa using e
    rw [hm'] at ho
    cases ho
    cases hc
   ·exact ((unhide HB).trans (hbelow.mono (unhide HB).size)).grown f2 (by have := (unhide HB).size; have := hbelow.size; omega) (fun k e => by cases e; omega)
 case done =>
  rintro D ys W hD hys ⟨hI, hB⟩ hK
  rw [unhide hys, List.reverse_reverse] at hI
  have v0 := hI.2.at 0
  simp at v0
  have HI := hide hI
  have HB := hide hB
  clear hI hB
  gi_wp2
  refine ⟨by simp, .inl ⟨_, _, rfl, run_takeDeferred hK, ?_⟩⟩
  exact ⟨_, results_tmp rfl _ _ _, rfl, (unhide HI).grown (grownBy_putObj' W D _) (fun r e => by cases e; omega), (unhide HB).trans (belowK_b (w := w) (Nat.le_refl _) W D _ _ (by omega) hK rfl rfl)⟩
 case stop =>
  rintro D c pre W _ _ h _
  exact h.elim
/-- the same, where the map stands left open -/
theorem apps_ex (x : Sls) (s : St) (hs : List AV) (w : World) (h : AVRow w x.aa x.al hs) (hl : x.al ≤ 1048576) (hn : ∀ m ∈ hs, (Lit.int .i64 m.id).wf = true) :
  Calls Tryz.prog 56 #[sv x s] w fun e w' => ∃ bm, e = .returned (.map (some bm)) ∧ (w.heap.size ≤ bm ∧ ∃ D, w'.ownsMap Tryz.prog 83 appElem bm hs.length D ∧ KnownA hs allA D) ∧ Below w.heap.size w w' :=
 (apps_any x s hs w h hl hn).mono fun e w' ⟨h1, h2, h3⟩ => ⟨_, h1, ⟨by omega, h2.1⟩, h3⟩
end Go.Proofs.YtbkchepelhkjlaaGreat

/-
 Whether the map of applications has a container's: what the program's ofApp and has answer; walks over the dump.
-/
namespace Go.Proofs.YtbkchepelhkjlaaGreat
open Go.RowKit Go.Maps
set_option linter.unusedVariables false
def hasB (hs : List AV) (keep : AV → Bool) (q : Con) : Bool := optB (findA q.app hs) keep
set_option maxHeartbeats 1000000 in
theorem ofApp_any (q : Con) (w : World) :
  Calls Tryz.prog 118 #[conv q] w fun e w' => e = .returned (.agg #[.string (bs []), .int .i64 q.app]) ∧ Below w.heap.size w w' := by
 obtain ⟨id, ap, nd, me, cp⟩ := q
 go_enter Tryz.func118, Tryz.ntmps118
 go_wp2
 refine bodyPost_ret (v := .agg #[.string (bs []), .int .i64 ap]) (by simp [results, Tryz.results118, go_sem]; rfl) rfl ⟨rfl, ?_⟩
 repeat (first | exact Below.refl _ _ | refine below_al ?_ _ | refine Below.drew ?_ | refine below_sc ?_ _ _ _ (by omega))
theorem ownsMap_below {w w' : World} {k : TypeId} {R : Value → Option (DataW Unit × List MemPlace)} {b n : Nat} {D : DataW Unit} (h : w.ownsMap Tryz.prog k R b n D) (hb : Below w.heap.size w w') : w'.ownsMap Tryz.prog k R b n D := h.kept (grownBy_below (grownBy_refl w none) hb) (by simp)

set_option maxRecDepth 100000 in
set_option maxHeartbeats 2000000 in
theorem has_any (bm n : Nat) (D : DataW Unit) (hs : List AV) (keep : AV → Bool) (q : Con) (w : World) (hown : w.ownsMap Tryz.prog 83 appElem bm n D) (hk : KnownA hs (fun _ v => keep v) D) (hwf : (Lit.int .i64 q.app).wf = true) :
  Calls Tryz.prog 67 #[.map (some bm), conv q] w fun e w' => e = .returned (.bool (hasB hs keep q)) ∧ Below w.heap.size w w' := by
 obtain ⟨kl, hkey⟩ := keyKey (nm := []) (k := q.app) (by decide) hwf
 have HL := hide (fun wx (hb : Below w.heap.size w wx) => lookA (ownsMap_below hown hb) hk hkey)
 obtain ⟨o, ho⟩ : ∃ o, hasB hs keep q = o := ⟨_, rfl⟩
 have HO := hide (show optB (findA q.app hs) keep = o from ho)
 rw [ho]
 clear ho hkey hown hk hwf
 have CO := hide (fun wx => ofApp_any q wx)
 obtain ⟨id, ap, nd, me, cp⟩ := q
 simp only at HL HO
 have HB0 := hide (below_al (Below.refl _ w) (.cells #[.int .i64 id, .int .i64 ap, .string (bs nd), .int .i64 me, .int .i64 cp] 70))
 go_enter Tryz.func67, Tryz.ntmps67
 go_wp2_with fail
 refine (unhide CO _).mono ?_
 rintro e w1 ⟨rfl, hb⟩
 have HB1 := hide (below_on (unhide HB0) hb)
 obtain ⟨v, hlk, _, _⟩ := unhide HL _ (unhide HB1)
 rw [show optB (findA ap hs) (fun v => keep v) = o from unhide HO] at hlk
 obtain ⟨v1, v2, v3, v4, v5⟩ := v
 clear hb HB0 HL HO
 go_wp2
 go_ret
 refine ⟨rfl, ?_⟩
 repeat (first | exact unhide HB1 | refine below_al ?_ _ | refine Below.drew ?_ | refine below_sc ?_ _ _ _ (by omega))
end Go.Proofs.YtbkchepelhkjlaaGreat

/-
 Where an application of a number is, in plain words; where the model looks for an application; a walk over the dump.
-/
namespace Go.Proofs.YtbkchepelhkjlaaGreat
open Go.RowKit Go.Maps
set_option linter.unusedVariables false
def findAp (id : Int) (l : List Appl) : Option Appl := l.find? (fun a => decide (a.id = id))
/-- the place of the first application of that number, from place k on; -1 where there is none -/
def apFrom (id : Int) : List Appl → Nat → Int
 | [], _ => -1
 | q :: t, k => if q.id = id then k else apFrom id t (k + 1)
def apAt (l : List Appl) (id : Int) : Int := apFrom id l 0
theorem apFrom_step {id : Int} {l : List Appl} {k : Nat} (h : k < l.length) : apFrom id (l.drop k) k = if l[k].id = id then (k : Int) else apFrom id (l.drop (k + 1)) (k + 1) := by
 rw [List.drop_eq_getElem_cons h, apFrom]
theorem apFrom_end {id : Int} {l : List Appl} {k : Nat} (h : l.length ≤ k) : apFrom id (l.drop k) k = -1 := by
 rw [List.drop_of_length_le h]; rfl
theorem apFrom_find (id : Int) : ∀ (l : List Appl) (k : Nat), (findAp id l = none ∧ apFrom id l k = -1) ∨ (∃ (j : Nat) (h : j < l.length), findAp id l = some l[j] ∧ apFrom id l k = ((k + j : Nat) : Int))
 | [], k => .inl ⟨rfl, rfl⟩
 | q :: t, k => by
  by_cases h : q.id = id
  ·right
   exact ⟨0, by simp, by simp [findAp, h], by rw [apFrom, if_pos h]; simp⟩
  ·have hf : findAp id (q :: t) = findAp id t := by simp [findAp, h]
   rw [hf, apFrom, if_neg h]
   rcases apFrom_find id t (k + 1) with ⟨a, b⟩ | ⟨j, hj, a, b⟩
   ·exact .inl ⟨a, b⟩
   ·exact .inr ⟨j + 1, by simpa using hj, by simpa using a, by rw [b]; congr 1; omega⟩
theorem apAt_find (id : Int) (l : List Appl) : (findAp id l = none ∧ apAt l id = -1) ∨ (∃ (j : Nat) (h : j < l.length), findAp id l = some l[j] ∧ apAt l id = (j : Int)) := by
 rcases apFrom_find id l 0 with h | ⟨j, h, a, b⟩
 ·exact .inl h
 ·exact .inr ⟨j, h, a, by rw [apAt, b]; congr 1; omega⟩
theorem heads_find {hs : List AV} {l : List Appl} {id : Int} : hs.length = l.length → (∀ i (h : i < hs.length) (h' : i < l.length), hs[i].id = l[i].id ∧ hs[i].queue = l[i].queue) → (findA id hs).map AV.queue = (findAp id l).map Appl.queue := by
 induction hs generalizing l with
 | nil =>
  intro h _
  have : l = [] := List.length_eq_zero_iff.1 h.symm
  subst this
  rfl
 | cons v t ih =>
  intro h1 h2
  cases l with
  | nil => simp at h1
  | cons a r =>
   have h0 := h2 0 (by simp) (by simp)
   simp only [List.getElem_cons_zero] at h0
   by_cases e : a.id = id
   ·have e' : v.id = id := h0.1.trans e
    simp [findA, findAp, e, e', h0.2]
   ·have e' : ¬ v.id = id := fun x => e (h0.1.symm.trans x)
    have := ih (l := r) (by simpa using h1) (fun i a b => by have := h2 (i + 1) (by simpa using a) (by simpa using b); simpa using this)
    simpa [findA, findAp, e, e'] using this

set_option maxRecDepth 100000 in
set_option maxHeartbeats 1000000 in
theorem l04App_any (x : Sls) (s : St) (id : Int) (w : World) (h : ApplRow w x.aa x.al s.apps) (hl : x.al ≤ 1048576) :
  Calls Tryz.prog 58 #[sv x s, .int .i64 id] w fun e w' => e = .returned (.int .i64 (apAt s.apps id)) ∧ Below w.heap.size w w' := by
 have HR := hide h
 have HL := hide h.1
 have HB0 := hide (below_al (Below.refl _ w) (.cells (svc x s) 29))
 have P0 := hide (blk_new w (svc x s) 29)
 clear h
 obtain ⟨qa, ql, qc, aa, al, ac, ma, ml, mc, ca, cl, cc⟩ := x
 obtain ⟨qs, clock, epoch, next, serial, apps, ms, cs⟩ := s
 simp only at hl HR HL ⊢
 go_enter Tryz.func58, Tryz.ntmps58
 go_wp2
 go_loopw [5] (fun i wr => ∃ (k : Nat), k ≤ al ∧ i = .int .i64 k ∧ Hid (apAt apps id = apFrom id (apps.drop k) k) ∧ Hid (Blk wr w.heap.size (svc ⟨qa, ql, qc, aa, al, ac, ma, ml, mc, ca, cl, cc⟩ ⟨qs, clock, epoch, next, serial, apps, ms, cs⟩) 29) ∧ Hid (Below w.heap.size w wr)) (fun i _ => al - (intOf i).toNat)
 case atStart => exact ⟨0, Nat.zero_le _, rfl, hide (by simp [apAt]), P0, HB0⟩
 case round =>
  obtain ⟨k, hk, rfl, HQ, HP, HB⟩ := hrel
  have p5 := (unhide HP).at 5
  simp at p5
  by_cases hlt : k < al
  ·obtain ⟨b, off, rfl, hq⟩ := ((unhide HR).below (unhide HB)).at hlt
   have hkl : k < apps.length := by have := unhide HL; omega
   have hst := hide (apFrom_step (id := id) hkl)
   obtain ⟨xo, xl, xc, hxx⟩ := hq hkl
   have c0 := hxx.1
   clear hq hxx
   obtain ⟨s, hs⟩ : ∃ s, apps[k].id = s := ⟨_, rfl⟩
   rw [hs] at c0 hst
   clear hs hkl
   by_cases he : s = id
   ·have HE := hide he
    have hbe : (s == id) = true := by simp [he]
    clear he
    go_wp2
    go_ret
    exact ⟨ret_int (by rw [unhide HQ, unhide hst, if_pos (unhide HE)]), unhide HB⟩
   ·have HE := hide he
    have hbe : (s == id) = false := by simp [he]
    clear he
    go_wp2
    go_roundw
    case rel => exact ⟨k + 1, by omega, by go_num, hide (by rw [unhide HQ, unhide hst, if_neg (unhide HE)]), HP, HB⟩
    case measure => simp [intOf]; omega
  ·go_wp2
   go_ret
   exact ⟨ret_int (by rw [unhide HQ, apFrom_end (by have := unhide HL; omega)]), unhide HB⟩
end Go.Proofs.YtbkchepelhkjlaaGreat

/-
 What the program's Sub answers; a walk over the dump.
-/
namespace Go.Proofs.YtbkchepelhkjlaaGreat
open Go.RowKit
set_option linter.unusedVariables false
set_option maxRecDepth 100000 in
set_option maxHeartbeats 1000000 in
theorem implSub_any (a b c d : Int) (w : World) :
  Calls Tryz.prog 50 #[rv a b, rv c d] w fun e w' => e = .returned (.tuple #[bothV (-1) a b c d, .bool (bothOk (-1) a b c d)]) ∧ Below w.heap.size w w' := by
 have V1 := ((var_new w 33 a b).al (.cells #[.int .i64 c, .int .i64 d] 33)).al (.cells #[.int .i64 0, .int .i64 0] 33)
 have V2 := (var_new2 w 33 33 a b c d).al (.cells #[.int .i64 0, .int .i64 0] 33)
 have V3 := var_new2 (w.alloc (.cells #[.int .i64 a, .int .i64 b] 33)) 33 33 c d 0 0
 have B3 := below_al (below_al (below_al (Below.refl _ w) (.cells #[.int .i64 a, .int .i64 b] 33)) (.cells #[.int .i64 c, .int .i64 d] 33)) (.cells #[.int .i64 0, .int .i64 0] 33)
 simp at V3
 have HV1 := hide V1
 have HV2 := hide V2
 have HV3 := hide V3
 have HB3 := hide B3
 have hc := hide (pairOk_any a b c d)
 clear V1 V2 V3 B3
 cases h0 : resOk a b && resOk c d
 ·have hb : bothOk (-1) a b c d = false := by rw [bothOk, h0]; rfl
  rw [both_no hb, hb]
  go_enter Tryz.func50, Tryz.ntmps50
  go_wp2_with fail
  refine (unhide hc _).mono ?_
  rw [h0]
  rintro e w1 ⟨rfl, hb⟩
  have V3 := (unhide HV3).below hb
  have k2 := V3.f 0
  have k3 := V3.f 1
  have k0 := V3.c0
  have k1 := V3.c1
  have k4 := V3.s0 (.int .i64 0)
  have k5 := V3.s1 (.int .i64 0) (.int .i64 0)
  have HB := hide (below_on (unhide HB3) hb)
  clear hb HV1 HV2 HV3 HB3 V3 hc
  go_wp2
  refine bodyPost_ret (v := .tuple #[rv 0 0, .bool false]) (by simp [results, Tryz.results50, go_sem, k4, k5]) rfl ⟨rfl, ?_⟩
  repeat (first | exact unhide HB | refine below_al ?_ _ | refine Below.drew ?_ | refine below_sc ?_ _ _ _ (by omega))
 ·have h0' := h0
  simp only [Bool.and_eq_true] at h0'
  obtain ⟨q1, q2, q3, q4⟩ := resOk_bd h0'.1
  obtain ⟨q5, q6, q7, q8⟩ := resOk_bd h0'.2
  obtain ⟨x, hx⟩ : ∃ x, a - c = x := ⟨_, rfl⟩
  obtain ⟨y, hy⟩ : ∃ y, b - d = y := ⟨_, rfl⟩
  have m3 : IntKind.i64.wrap (a - c) = x := by rw [IntKind.wrap_i64]; omega
  have m4 : IntKind.i64.wrap (b - d) = y := by rw [IntKind.wrap_i64]; omega
  have e1 : bothOk (-1) a b c d = resOk x y := by rw [bothOk, h0, show a + (-1) * c = x by omega, show b + (-1) * d = y by omega]; rfl
  have e2 : bothV (-1) a b c d = orV x y := by rw [bothV, orV, e1, show a + (-1) * c = x by omega, show b + (-1) * d = y by omega]
  obtain ⟨u, v, hv⟩ : ∃ u v, orV x y = rv u v := by unfold orV; split <;> exact ⟨_, _, rfl⟩
  obtain ⟨o, ho⟩ : ∃ o, resOk x y = o := ⟨_, rfl⟩
  have ho2 : ∀ wx, Calls Tryz.prog 90 #[rv x y] wx fun e w' => e = .returned (.tuple #[rv u v, .bool o]) ∧ Below wx.heap.size wx w' := fun wx => by have := or_any x y wx; rw [hv, ho] at this; exact this
  rw [e1, e2, hv, ho]
  have HO := hide ho2
  clear e1 e2 hv ho ho2 h0' q1 q2 q3 q4 q5 q6 q7 q8 hx hy
  go_enter Tryz.func50, Tryz.ntmps50
  go_wp2_with fail
  refine (unhide hc _).mono ?_
  rw [h0]
  rintro e w1 ⟨rfl, hb⟩
  have V1 := (unhide HV1).below hb
  have V2 := (unhide HV2).below hb
  have V3 := hide ((unhide HV3).below hb)
  have a1 := V1.c0
  have a2 := V1.c1
  have a3 := V2.c0
  have a4 := V2.c1
  have HB := hide (below_on (unhide HB3) hb)
  clear hb HV1 HV2 HV3 HB3 V1 V2 hc
  go_wp2_with fail
  refine (unhide HO _).mono ?_
  rintro e w2 ⟨rfl, hb⟩
  have V4 := (unhide V3).below hb
  have k0 := V4.c0
  have k1 := V4.c1
  have k2 := V4.f 0
  have k3 := V4.f 1
  have k4 := V4.s0 (.int .i64 u)
  have k5 := V4.s1 (.int .i64 u) (.int .i64 v)
  have HB2 := hide (below_on (unhide HB) hb)
  clear hb V4 V3 HB HO a1 a2 a3 a4
  go_wp2
  refine bodyPost_ret (v := .tuple #[rv u v, .bool o]) (by simp [results, Tryz.results50, go_sem, k4, k5]) rfl ⟨rfl, ?_⟩
  repeat (first | exact unhide HB2 | refine below_al ?_ _ | refine Below.drew ?_ | refine below_sc ?_ _ _ _ (by omega))
end Go.Proofs.YtbkchepelhkjlaaGreat
