/-
  Several texts of this claim in one: DrB, TakeD, RegX, StBx, WfS (pack.py put them together); each says in its own remark what is proved.
-/
import Derived.Test.YtcplnodfcchdhaaGreatPackI
import Derived.Test.YtcplnodfcchdhaaGreatPackA
import Derived.Deep.RegionHeld3
import Derived.Test.YtcplnodfcchdhaaGreatPackG
import Derived.Test.YtcplnodfcchdhaaGreatPackC
/-
  One more behind a list of a state in the making: the append's run, and the state behind it.
-/
namespace Go.Proofs.YtcplnodfcchdhaaGreat
open Go.RowKit
set_option linter.unusedVariables false
theorem runM {B : Nat} {w : World} {ao : Option Addr} {n cap : Nat} {l : List Mac} (hr : MacRow w ao n l) (hrm : Own1 B w.heap.size w 56 4 ao cap) (hnc : n ≤ cap) (hn : n ≤ 1000) (hB : B ≤ w.heap.size) (m : Mac) :
    ∃ g cp w4, (Builtin.append_ #[26, 26] 26 #[.slice ao n cap, .slice (some ⟨w.heap.size, 0, none⟩) 1 1]).run Tryz.prog (w.alloc (.cells #[.string (bs m.name), .int .i64 m.mem, .int .i64 m.cpu, .int .i64 m.seen] 56)) = .ok (.slice (some ⟨g, 0, none⟩) (n + 1) cp) w4
      ∧ Hid (AppR B (w.alloc (.cells #[.string (bs m.name), .int .i64 m.mem, .int .i64 m.cpu, .int .i64 m.seen] 56)) 56 4 ao (n + 1) (mcells l ++ mcell m) g cp w4) := by
  obtain ⟨i0, hi, hz0, hz1, hz2⟩ := info_parts Tryz.infoMachine
  have hb := below_al (Below.refl _ w) (.cells #[.string (bs m.name), .int .i64 m.mem, .int .i64 m.cpu, .int .i64 m.seen] 56)
  exact run_append_rm _ 26 26 56 i0 (.agg #[.string ByteArray.empty, .int .i64 0, .int .i64 0, .int .i64 0]) 4 40 Tryz.underlying26 hi hz0 hz1 hz2 rfl (by decide) B _ ao n cap (mcells l) (hrm.below hb) hnc (by rw [al_size]; omega) (by rw [mcells_len, ← hr.1]) (fun b off e j u hj => by subst e; exact mcells_row (hr.below hb) j u hj) ⟨w.heap.size, 0, none⟩ 1 1 (mcell m) rfl (World.news_of_block (blk_new w _ _)) (by intro u hu; simp at hu; rcases hu with rfl | rfl | rfl | rfl <;> rfl) (by decide) (by unfold maxLen; omega) (by omega)
theorem runC {B : Nat} {w : World} {ao : Option Addr} {n cap : Nat} {l : List Con} (hr : ConRow w ao n l) (hrm : Own1 B w.heap.size w 72 5 ao cap) (hnc : n ≤ cap) (hn : n ≤ 1000) (hB : B ≤ w.heap.size) (m : Con) :
    ∃ g cp w4, (Builtin.append_ #[27, 27] 27 #[.slice ao n cap, .slice (some ⟨w.heap.size, 0, none⟩) 1 1]).run Tryz.prog (w.alloc (.cells #[.int .i64 m.id, .int .i64 m.app, .string (bs m.node), .int .i64 m.mem, .int .i64 m.cpu] 72)) = .ok (.slice (some ⟨g, 0, none⟩) (n + 1) cp) w4
      ∧ Hid (AppR B (w.alloc (.cells #[.int .i64 m.id, .int .i64 m.app, .string (bs m.node), .int .i64 m.mem, .int .i64 m.cpu] 72)) 72 5 ao (n + 1) (ccells l ++ ccell m) g cp w4) := by
  obtain ⟨i0, hi, hz0, hz1, hz2⟩ := info_parts Tryz.infoCont
  have hb := below_al (Below.refl _ w) (.cells #[.int .i64 m.id, .int .i64 m.app, .string (bs m.node), .int .i64 m.mem, .int .i64 m.cpu] 72)
  exact run_append_rm _ 27 27 72 i0 (.agg #[.int .i64 0, .int .i64 0, .string ByteArray.empty, .int .i64 0, .int .i64 0]) 5 48 Tryz.underlying27 hi hz0 hz1 hz2 rfl (by decide) B _ ao n cap (ccells l) (hrm.below hb) hnc (by rw [al_size]; omega) (by rw [ccells_len, ← hr.1]) (fun b off e j u hj => by subst e; exact ccells_row (hr.below hb) j u hj) ⟨w.heap.size, 0, none⟩ 1 1 (ccell m) rfl (World.news_of_block (blk_new w _ _)) (by intro u hu; simp at hu; rcases hu with rfl | rfl | rfl | rfl | rfl <;> rfl) (by decide) (by unfold maxLen; omega) (by omega)
theorem runA {B : Nat} {w : World} {ao : Option Addr} {n cap : Nat} {l : List Ask} (hr : AskRow w ao n l) (hrm : Own1 B w.heap.size w 96 5 ao cap) (hnc : n ≤ cap) (hn : n ≤ 1000) (hB : B ≤ w.heap.size) (m : Ask) :
    ∃ g cp w4, (Builtin.append_ #[39, 39] 39 #[.slice ao n cap, .slice (some ⟨w.heap.size, 0, none⟩) 1 1]).run Tryz.prog (w.alloc (.cells #[.int .i64 m.mem, .int .i64 m.cpu, .int .i64 m.count, .string (bs m.node), .int .i64 m.missed] 96)) = .ok (.slice (some ⟨g, 0, none⟩) (n + 1) cp) w4
      ∧ Hid (AppR B (w.alloc (.cells #[.int .i64 m.mem, .int .i64 m.cpu, .int .i64 m.count, .string (bs m.node), .int .i64 m.missed] 96)) 96 5 ao (n + 1) (acells l ++ acell m) g cp w4) := by
  obtain ⟨i0, hi, hz0, hz1, hz2⟩ := info_parts Tryz.infoA
  have hb := below_al (Below.refl _ w) (.cells #[.int .i64 m.mem, .int .i64 m.cpu, .int .i64 m.count, .string (bs m.node), .int .i64 m.missed] 96)
  exact run_append_rm _ 39 39 96 i0 (.agg #[.int .i64 0, .int .i64 0, .int .i64 0, .string ByteArray.empty, .int .i64 0]) 5 48 Tryz.underlying39 hi hz0 hz1 hz2 rfl (by decide) B _ ao n cap (acells l) (hrm.below hb) hnc (by rw [al_size]; omega) (by rw [acells_len, ← hr.1]) (fun b off e j u hj => by subst e; exact acells_row (hr.below hb) j u hj) ⟨w.heap.size, 0, none⟩ 1 1 (acell m) rfl (World.news_of_block (blk_new w _ _)) (by intro u hu; simp at hu; rcases hu with rfl | rfl | rfl | rfl | rfl <;> rfl) (by decide) (by unfold maxLen; omega) (by omega)
theorem runP {B : Nat} {w : World} {ao : Option Addr} {n cap : Nat} {l : List AV} (hr : AVRow w ao n l) (hrm : Own1 B w.heap.size w 41 3 ao cap) (hnc : n ≤ cap) (hn : n ≤ 1000) (hB : B ≤ w.heap.size) (m : AV) :
    ∃ g cp w4, (Builtin.append_ #[25, 25] 25 #[.slice ao n cap, .slice (some ⟨w.heap.size, 0, none⟩) 1 1]).run Tryz.prog (w.alloc (.cells #[.int .i64 m.id, .string (bs m.queue), .slice m.ao m.len m.cap] 41)) = .ok (.slice (some ⟨g, 0, none⟩) (n + 1) cp) w4
      ∧ Hid (AppR B (w.alloc (.cells #[.int .i64 m.id, .string (bs m.queue), .slice m.ao m.len m.cap] 41)) 41 3 ao (n + 1) (pcells l ++ pcell m) g cp w4) := by
  obtain ⟨i0, hi, hz0, hz1, hz2⟩ := info_parts Tryz.infoApp
  have hb := below_al (Below.refl _ w) (.cells #[.int .i64 m.id, .string (bs m.queue), .slice m.ao m.len m.cap] 41)
  exact run_append_rm _ 25 25 41 i0 (.agg #[.int .i64 0, .string ByteArray.empty, .slice none 0 0]) 3 48 Tryz.underlying25 hi hz0 hz1 hz2 rfl (by decide) B _ ao n cap (pcells l) (hrm.below hb) hnc (by rw [al_size]; omega) (by rw [pcells_len, ← hr.1]) (fun b off e j u hj => by subst e; exact pcells_row (hr.below hb) j u hj) ⟨w.heap.size, 0, none⟩ 1 1 (pcell m) rfl (World.news_of_block (blk_new w _ _)) (by intro u hu; simp at hu; rcases hu with rfl | rfl | rfl <;> rfl) (by decide) (by unfold maxLen; omega) (by omega)

theorem rowOf {w : World} {t : TypeId} {sz g cap n B : Nat} {ao : Option Addr} {w' : World} {cs : List Value} (ha : AppR B w t sz ao n cs g cap w') (hn : 0 < n) (hl : cs.length = n * sz) : ∃ M, Lay w' t g (M * sz) cs := by
  rcases ha.own with e | ⟨g', M, e, _, _, hc, hM⟩
  · have := ha.cap; omega
  · cases e
    exact ⟨M, lay_of hc ha.cells (by rw [hl]; exact Nat.mul_le_mul_right _ (by have := ha.cap; omega))⟩
theorem SHas.addM {B g cap : Nat} {w w' : World} {x : Sls} {s : St} {hs : List AV} (h : SHas B w x s hs) (m : Mac) (ha : AppR B w 56 4 x.ma (x.ml + 1) (mcells s.ms ++ mcell m) g cap w') :
    SHas B w' ⟨x.qa, x.ql, x.qc, x.aa, x.al, x.ac, some ⟨g, 0, none⟩, x.ml + 1, cap, x.ca, x.cl, x.cc⟩ ⟨s.qs, s.clock, s.epoch, s.next, s.serial, s.apps, s.ms ++ [m], s.cs⟩ hs := by
  have hrm := (h.rm.mks ha.mks).mono (Nat.le_refl B) ha.mks.size
  have hml : x.ml = s.ms.length := h.m.1.1
  refine ⟨h.q.off ha.mks (off_ty (by decide)), h.p.off ha.mks (off_ty (by decide)), h.k.off ha.mks (off_ty (by decide)), ⟨?_, ha.own.le ha.cap⟩, h.c.off ha.mks (off_ty (by decide)), ⟨h.cap.q, h.cap.a, ha.cap, h.cap.c⟩, ⟨hrm.1, hrm.2.1, ha.own, hrm.2.2.2⟩⟩
  obtain ⟨M, hL⟩ := rowOf ha (by omega) (by rw [← mcells_app, mcells_len]; simp [hml])
  rw [← mcells_app] at hL
  have := hL.rowM
  rwa [List.length_append, List.length_singleton, ← hml] at this
theorem SHas.addC {B g cap : Nat} {w w' : World} {x : Sls} {s : St} {hs : List AV} (h : SHas B w x s hs) (m : Con) (ha : AppR B w 72 5 x.ca (x.cl + 1) (ccells s.cs ++ ccell m) g cap w') :
    SHas B w' ⟨x.qa, x.ql, x.qc, x.aa, x.al, x.ac, x.ma, x.ml, x.mc, some ⟨g, 0, none⟩, x.cl + 1, cap⟩ ⟨s.qs, s.clock, s.epoch, s.next, s.serial, s.apps, s.ms, s.cs ++ [m]⟩ hs := by
  have hrm := (h.rm.mks ha.mks).mono (Nat.le_refl B) ha.mks.size
  have hml : x.cl = s.cs.length := h.c.1.1
  refine ⟨h.q.off ha.mks (off_ty (by decide)), h.p.off ha.mks (off_ty (by decide)), h.k.off ha.mks (off_ty (by decide)), h.m.off ha.mks (off_ty (by decide)), ⟨?_, ha.own.le ha.cap⟩, ⟨h.cap.q, h.cap.a, h.cap.m, ha.cap⟩, ⟨hrm.1, hrm.2.1, hrm.2.2.1, ha.own, hrm.2.2.2.2⟩⟩
  obtain ⟨M, hL⟩ := rowOf ha (by omega) (by rw [← ccells_app, ccells_len]; simp [hml])
  rw [← ccells_app] at hL
  have := hL.rowC
  rwa [List.length_append, List.length_singleton, ← hml] at this
theorem acells_snoc (a : List Ask) (q : Ask) : acells (a ++ [q]) = acells a ++ acell q := by
  induction a with
  | nil => rfl
  | cons x t ih => rw [List.cons_append, acells, acells, ih, List.append_assoc]
/-- asks with one more -/
theorem ask_add {B g cap n : Nat} {w w' : World} {ao : Option Addr} {l : List Ask} (hn : n = l.length) (m : Ask) (ha : AppR B w 96 5 ao (n + 1) (acells l ++ acell m) g cap w') : AskRow w' (some ⟨g, 0, none⟩) (n + 1) (l ++ [m]) := by
  obtain ⟨M, hL⟩ := rowOf ha (by omega) (by rw [← acells_snoc, acells_len]; simp [hn])
  rw [← acells_snoc] at hL
  have := hL.rowA
  rwa [List.length_append, List.length_singleton, ← hn] at this
/-- one more, whose asks lie at E or behind it, and those of all others ahead of E -/
theorem KHas.snocE {B E : Nat} {w : World} {ns : List AV} {l : List Appl} (h : KHas B w ns l) (hE : ∀ v ∈ ns, Own1 B E w 96 5 v.ao v.len) (hB : B ≤ E) (id : Int) (qu : List UInt8) (ao : Option Addr) (cap : Nat) (k : List Ask) (hc : k.length ≤ cap)
    (hr : AskRow w ao k.length k) (ho : Own1 E w.heap.size w 96 5 ao k.length) : KHas B w (ns ++ [⟨id, qu, ao, k.length, cap⟩]) (l ++ [⟨id, qu, k⟩]) := by
  refine ⟨⟨by simp [h.heads.1], fun i h1 h2 => ?_⟩, fun v hv => ?_, ?_⟩
  · by_cases hi : i < ns.length
    · have hi' : i < l.length := by rw [← h.heads.1]; exact hi
      rw [List.getElem_append_left hi, List.getElem_append_left hi']
      exact h.heads.2 i hi hi'
    · have hi1 : i = ns.length := by simp at h1; omega
      subst hi1
      have hl : ns.length = l.length := h.heads.1
      simp only [List.getElem_append_right (Nat.le_refl _), Nat.sub_self, List.getElem_cons_zero]
      rw [List.getElem_append_right (by omega)]
      simp only [hl, Nat.sub_self, List.getElem_cons_zero]
      exact ⟨trivial, trivial, hr, hc⟩
  · rcases List.mem_append.1 hv with hv | hv
    · exact h.own v hv
    · simp at hv
      subst hv
      exact ho.mono hB (Nat.le_refl _)
  · refine List.pairwise_append.2 ⟨h.apart, by simp, fun u hu v hv => ?_⟩
    simp at hv
    subst hv
    rcases hE u hu with e | ⟨g1, M1, e1, _, h3, _⟩
    · exact .inl e
    · rcases ho with e | ⟨g2, M2, e2, h4, _⟩
      · exact .inr (.inl e)
      · refine .inr (.inr (fun e => ?_))
        simp only at e
        rw [e1, e2] at e
        cases e
        omega
theorem SHas.addA {B E g cap cp n : Nat} {w w' : World} {x : Sls} {s : St} {hs : List AV} (h : SAns B E w x s hs) (hE : E ≤ w.heap.size) (hB : B ≤ E) (id nx : Int) (qu : List UInt8) (ao : Option Addr) (k : List Ask) (hn : n = k.length) (hc : n ≤ cp)
    (hr : AskRow w ao n k) (ho : Own1 E w.heap.size w 96 5 ao cp) (ha : AppR B w 41 3 x.aa (x.al + 1) (pcells hs ++ pcell ⟨id, qu, ao, n, cp⟩) g cap w') :
    SHas B w' ⟨x.qa, x.ql, x.qc, some ⟨g, 0, none⟩, x.al + 1, cap, x.ma, x.ml, x.mc, x.ca, x.cl, x.cc⟩ ⟨s.qs, s.clock, s.epoch, nx, s.serial, s.apps ++ [⟨id, qu, k⟩], s.ms, s.cs⟩ (hs ++ [⟨id, qu, ao, n, cp⟩]) := by
  subst hn
  have H := h.has hE
  have hrm := (H.rm.mks ha.mks).mono (Nat.le_refl B) ha.mks.size
  have hml : x.al = hs.length := H.p.1.1
  have hk := (H.k.snocE h.asks hB id qu ao cp k hc hr (ho.le hc)).off ha.mks (off_ty (by decide))
  refine ⟨H.q.off ha.mks (off_ty (by decide)), ⟨?_, ha.own.le ha.cap⟩, hk, H.m.off ha.mks (off_ty (by decide)), H.c.off ha.mks (off_ty (by decide)), ⟨H.cap.q, ha.cap, H.cap.m, H.cap.c⟩, ⟨hrm.1, ha.own, hrm.2.2.1, hrm.2.2.2.1, fun v hv => ?_⟩⟩
  · obtain ⟨M, hL⟩ := rowOf ha (by omega) (by rw [← pcells_app, pcells_len]; simp [hml])
    rw [← pcells_app] at hL
    have := hL.rowP
    rwa [List.length_append, List.length_singleton, ← hml] at this
  · rcases List.mem_append.1 hv with hv | hv
    · exact hrm.2.2.2.2 v hv
    · obtain rfl := List.mem_singleton.1 hv
      exact ((ho.mono hB (Nat.le_refl _)).mks ha.mks).mono (Nat.le_refl _) ha.mks.size
end Go.Proofs.YtcplnodfcchdhaaGreat

/-
  An operation of a region that draws its order, taken first, where it puts its value said by its number.
-/
namespace Go.Proofs.YtcplnodfcchdhaaGreat
open Go.RowKit
theorem takeD {P : Program} {ops : Array Oper} {Q : Exit → Act → World → Prop} {md : Region.Mode} {S : World → Prop} {i : Nat} {oi : Oper} {v : Value} {d : Option Tmp} {fuel : Nat} {listed : Array Bool} {a : Act} {w : World} (hi : ops[i]? = some oi) (hd : oi.dst = d)
    (hs : Region.noSelect ops = true) (hf : Region.free md ops listed i = true) (hr : (Region.ready md ops listed).contains i = true)
    (hQ : ∀ c a w, Q (.panic c) (a.put d v) w → Q (.panic c) a w) (hy : YieldsIf P ops S oi v a) (hS : S w)
    (h : wpAnyH P md ops Q S fuel (listed.setIfInBounds i true) (a.put d v) w) : wpAnyH P md ops Q S (fuel + 1) listed a w := by
  subst hd
  exact wpAnyH_take hi hs hf hr hQ hy hS h
/-- one that is passed over -/
theorem takeU {P : Program} {ops : Array Oper} {Q : Exit → Act → World → Prop} {md : Region.Mode} {S : World → Prop} {oi : Oper} {fuel : Nat} {listed : Array Bool} {a : Act} {w : World} (i d : Nat) (hi : ops[i]? = some oi) (hd : oi.dst = some d) (hS : S w)
    (h : wpAnyH P md ops Q S fuel (listed.setIfInBounds i true) (a.put (some d) undef) w)
    (hs : Region.noSelect ops = true := by kernel_rfl) (hf : Region.free md ops listed i = true := by kernel_rfl) (hr : (Region.ready md ops listed).contains i = true := by kernel_rfl)
    (hQ : ∀ c a w, Q (.panic c) (a.put (some d) undef) w → Q (.panic c) a w := by exact fun _ _ _ h => h) (hw : Region.wanted oi (yielded ops a.tmps) = false := by kernel_rfl) : wpAnyH P md ops Q S (fuel + 1) listed a w :=
  takeD hi hd hs hf hr hQ (Or.inr ⟨hw, rfl⟩) hS h
/-- one that is carried out -/
theorem takeW {P : Program} {ops : Array Oper} {Q : Exit → Act → World → Prop} {md : Region.Mode} {S : World → Prop} {oi : Oper} {fuel : Nat} {listed : Array Bool} {a : Act} {w : World} (i d : Nat) (v : Value) (hi : ops[i]? = some oi) (hd : oi.dst = some d) (hS : S w)
    (h : wpAnyH P md ops Q S fuel (listed.setIfInBounds i true) (a.put (some d) v) w)
    (hs : Region.noSelect ops = true := by kernel_rfl) (hf : Region.free md ops listed i = true := by kernel_rfl) (hr : (Region.ready md ops listed).contains i = true := by kernel_rfl)
    (hQ : ∀ c a w, Q (.panic c) (a.put (some d) v) w → Q (.panic c) a w := by exact fun _ _ _ h => h) (hy : YieldsIf P ops S oi v a := by exact Or.inl ⟨by rfl, fun wz hz => by (go_simp; try with_reducible rfl)⟩) : wpAnyH P md ops Q S (fuel + 1) listed a w :=
  takeD hi hd hs hf hr hQ hy hS h
end Go.Proofs.YtcplnodfcchdhaaGreat

/-
  A region that draws its order: a part of what is held of the world is asked for only until one operation, X, has come up: so a cell that is loaded ahead of X may be stored into behind it.
-/
namespace Go.Proofs.YtcplnodfcchdhaaGreat
open Go.RowKit
set_option linter.unusedVariables false
/-- behind each operation S holds, and ahead of X also T -/
def wpAnyX (P : Program) (md : Region.Mode) (ops : Array Oper) (Q : Exit → Act → World → Prop) (X : Nat) (S T : World → Prop) : Nat → Array Bool → Act → World → Prop
  | 0, listed, a, w => Region.ready md ops listed = [] ∧ Q .normal a w
  | fuel + 1, listed, a, w => (Region.ready md ops listed = [] → Q .normal a w) ∧
    ∀ i ∈ Region.ready md ops listed, wpOp P ops Q i (fun a' w' => S w' ∧ ((listed.setIfInBounds i true).getD X false = false → T w') ∧ wpAnyX P md ops Q X S T fuel (listed.setIfInBounds i true) a' w') a w
section
variable {P : Program} {ops : Array Oper} {Q : Exit → Act → World → Prop} {md : Region.Mode} {X : Nat} {S T : World → Prop}
theorem wpAny_of_x : ∀ (fuel : Nat) (listed : Array Bool) (a : Act) (w : World), wpAnyX P md ops Q X S T fuel listed a w → wpAny P md ops Q fuel listed a w
  | 0, _, _, _, h => h
  | fuel + 1, _, _, _, h => ⟨h.1, fun i hi => wpOp_mono (fun a' w' h' => wpAny_of_x fuel _ a' w' h'.2.2) (h.2 i hi)⟩
theorem wp_region_x {id : Nat} {a : Act} {w : World} (X : Nat) (S T : World → Prop) (hm : P.follows .mixedOrders = true) (h1 : S w.drew) (h2 : T w.drew)
    (h : S w.drew → T w.drew → wpAnyX P .any ops Q X S T ops.size (Array.replicate ops.size false) a w.drew) : (Code.region id ops true).wp P Q a w :=
  wp_region_any hm (wpAny_of_x _ _ _ _ (h h1 h2))
/-- behind X what is held is S alone -/
theorem wpAnyX_on : ∀ (fuel : Nat) (listed : Array Bool) (a : Act) (w : World), listed.getD X false = true → wpAnyH P md ops Q S fuel listed a w → wpAnyX P md ops Q X S T fuel listed a w
  | 0, _, _, _, _, h => h
  | fuel + 1, _, _, _, hX, h => ⟨h.1, fun i hi => wpOp_mono (fun a' w' h' => ⟨h'.1, (fun e => by rw [getD_set_true hX] at e; cases e), wpAnyX_on fuel _ a' w' (getD_set_true hX) h'.2⟩) (h.2 i hi)⟩
theorem wpAnyX_first {i : Nat} {oi : Oper} {v : Value} {U : World → Prop} (hi : ops[i]? = some oi) (hsel : ∀ (j : Nat) (o : Oper) cs b, ops[j]? = some o → o.op ≠ .select cs b) (hXi : i ≠ X)
    (hQ : ∀ c a w, Q (.panic c) (a.put oi.dst v) w → Q (.panic c) a w)
    (c : Bool) (hU1 : c = true → ∀ w, S w → U w) (hU2 : c = false → (∀ w, T w → U w) ∧ ∃ ox, ops[X]? = some ox ∧ ∃ e ∈ ox.after, Region.binds md e = true ∧ e.on = i) :
    ∀ (fuel : Nat) (listed : Array Bool) (a : Act) (w : World),
      (∀ j oj, ops[j]? = some oj → j ≠ i → listed.getD j true = false → (∀ e ∈ oj.after, Region.binds md e = true → e.on ≠ i) → oi.apart ops oj = true) →
      i ∈ Region.ready md ops listed → YieldsIf P ops U oi v a → (c = false → listed.getD X false = false) → S w → (listed.getD X false = false → T w) →
      wpAnyX P md ops Q X S T fuel (listed.setIfInBounds i true) (a.put oi.dst v) w → wpAnyX P md ops Q X S T (fuel + 1) listed a w := by
  have hw : ∀ (listed : Array Bool) w, (c = false → listed.getD X false = false) → S w → (listed.getD X false = false → T w) → U w := fun listed w h0 h1 h2 => by
    cases c
    · exact (hU2 rfl).1 w (h2 (h0 rfl))
    · exact hU1 rfl w h1
  intro fuel
  induction fuel with
  | zero =>
    intro listed a w _ hr hy hX h1 h2 H
    refine ⟨fun h => (by rw [h] at hr; cases hr), fun j hj => ?_⟩
    by_cases hji : j = i
    · subst hji; exact hy.wpOp hi (hw listed w hX h1 h2) ⟨h1, fun e => h2 (by rwa [getD_set_ne false hXi] at e), H⟩
    · have := ready_mono hj hji
      rw [H.1] at this
      cases this
  | succ fuel ih =>
    intro listed a w hfree hr hy hX h1 h2 H
    refine ⟨fun h => (by rw [h] at hr; cases hr), fun j hj => ?_⟩
    by_cases hji : j = i
    · subst hji; exact hy.wpOp hi (hw listed w hX h1 h2) ⟨h1, fun e => h2 (by rwa [getD_set_ne false hXi] at e), H⟩
    · have k1 := H.2 j (ready_mono hj hji)
      obtain ⟨hjun, oj, hoj, hall⟩ := mem_ready.1 hj
      have hnot : ∀ e ∈ oj.after, Region.binds md e = true → e.on ≠ i := fun e he hb heq => by
        have q1 := hall e he hb
        have q0 := (mem_ready.1 hr).1
        rw [heq] at q1
        rcases Nat.lt_or_ge i listed.size with h' | h'
        · simp [h'] at q0 q1; rw [q0] at q1; cases q1
        · simp [Array.getElem?_eq_none h'] at q1
      have k2 := wpOp_putIf hoj (hfree j oj hoj hji hjun hnot) (fun cs b => hsel i oi cs b hi) (fun cs b => hsel j oj cs b hoj) hQ hy k1
      have hfree' : ∀ k ok, ops[k]? = some ok → k ≠ i → (listed.setIfInBounds j true).getD k true = false →
          (∀ e ∈ ok.after, Region.binds md e = true → e.on ≠ i) → oi.apart ops ok = true := fun k ok hk hki hun hno => by
        refine hfree k ok hk hki ?_ hno
        by_cases hjk : j = k
        · subst hjk; exact hjun
        · rw [getD_set_ne true hjk] at hun; exact hun
      refine wpOp_mono (fun a' w' h3 => ?_) k2
      obtain ⟨y1, s1, t1, H1⟩ := h3
      rw [Array.setIfInBounds_comm _ _ (Ne.symm hji)] at H1
      have t2 : (listed.setIfInBounds j true).getD X false = false → T w' := fun e => by
        refine t1 ?_
        by_cases hjX : j = X
        · subst hjX
          rw [Array.setIfInBounds_comm _ _ (Ne.symm hji), getD_set_ne false hXi]
          exact e
        · rw [getD_set_ne false hjX, getD_set_ne false hXi]
          rw [getD_set_ne false hjX] at e
          exact e
      refine ⟨s1, t2, ih (listed.setIfInBounds j true) a' w' hfree' (ready_mono hr (Ne.symm hji)) y1 (fun hc => ?_) s1 t2 H1⟩
      have hjX : j ≠ X := fun e => by
        subst e
        obtain ⟨_, ox, hox, e, he, hb, heq⟩ := hU2 hc
        rw [hox] at hoj
        cases hoj
        exact hnot e he hb heq
      rw [getD_set_ne false hjX]
      exact hX hc
/-- does X wait for i -/
def waitsOn (md : Region.Mode) (ops : Array Oper) (X i : Nat) : Bool := ((ops[X]?).map fun o => o.after.any fun e => Region.binds md e && e.on == i).getD false
theorem waits_spec {i : Nat} (h : waitsOn md ops X i = true) : ∃ ox, ops[X]? = some ox ∧ ∃ e ∈ ox.after, Region.binds md e = true ∧ e.on = i := by
  unfold waitsOn at h
  cases ho : ops[X]? with
  | none => rw [ho] at h; simp at h
  | some o =>
    rw [ho] at h
    simp only [Option.map_some, Option.getD_some] at h
    obtain ⟨e, he, hb⟩ := Array.any_eq_true'.1 h
    simp only [Bool.and_eq_true, beq_iff_eq] at hb
    exact ⟨o, rfl, e, he, hb.1, hb.2⟩
/-- one that yields wherever S holds is taken first -/
theorem takeXS {oi : Oper} {fuel : Nat} {listed : Array Bool} {a : Act} {w : World} (i d : Nat) (v : Value) (hi : ops[i]? = some oi) (hd : oi.dst = some d) (hS : S w) (hT : T w)
    (h : wpAnyX P md ops Q X S T fuel (listed.setIfInBounds i true) (a.put (some d) v) w)
    (hy : YieldsIf P ops S oi v a := by exact Or.inl ⟨by rfl, fun wz hz => by (go_simp; try with_reducible rfl)⟩)
    (hs : Region.noSelect ops = true := by kernel_rfl) (hf : Region.free md ops listed i = true := by kernel_rfl) (hr : (Region.ready md ops listed).contains i = true := by kernel_rfl) (hX : (i != X) = true := by kernel_rfl)
    (hQ : ∀ c a w, Q (.panic c) (a.put (some d) v) w → Q (.panic c) a w := by exact fun _ _ _ h => h) : wpAnyX P md ops Q X S T (fuel + 1) listed a w := by
  rw [← hd] at h hQ
  exact wpAnyX_first hi (Region.noSelect_spec hs) (by simpa using hX) hQ true (fun _ _ h => h) (fun e => by cases e) fuel listed a w (Region.free_spec hi hf) (by simpa using hr) hy (fun e => by cases e) hS (fun _ => hT) h
/-- one that yields wherever T holds, and that X waits for, is taken first -/
theorem takeXT {oi : Oper} {fuel : Nat} {listed : Array Bool} {a : Act} {w : World} (i d : Nat) (v : Value) (hi : ops[i]? = some oi) (hd : oi.dst = some d) (hS : S w) (hT : T w)
    (h : wpAnyX P md ops Q X S T fuel (listed.setIfInBounds i true) (a.put (some d) v) w)
    (hy : YieldsIf P ops T oi v a := by exact Or.inl ⟨by rfl, fun wz hz => by (go_simp; try with_reducible rfl)⟩)
    (hs : Region.noSelect ops = true := by kernel_rfl) (hf : Region.free md ops listed i = true := by kernel_rfl) (hr : (Region.ready md ops listed).contains i = true := by kernel_rfl) (hX : (i != X) = true := by kernel_rfl)
    (hw : waitsOn md ops X i = true := by kernel_rfl) (hl : listed.getD X false = false := by kernel_rfl)
    (hQ : ∀ c a w, Q (.panic c) (a.put (some d) v) w → Q (.panic c) a w := by exact fun _ _ _ h => h) : wpAnyX P md ops Q X S T (fuel + 1) listed a w := by
  rw [← hd] at h hQ
  exact wpAnyX_first hi (Region.noSelect_spec hs) (by simpa using hX) hQ false (fun e => by cases e) (fun _ => ⟨fun _ h => h, waits_spec hw⟩) fuel listed a w (Region.free_spec hi hf) (by simpa using hr) hy (fun _ => hl) hS (fun _ => hT) h
def AllReadyX (P : Program) (md : Region.Mode) (ops : Array Oper) (Q : Exit → Act → World → Prop) (X : Nat) (S T : World → Prop) (fuel : Nat) (listed : Array Bool) (a : Act) (w : World) (rs : List Nat) : Prop :=
  ∀ i ∈ rs, wpOp P ops Q i (fun a' w' => S w' ∧ ((listed.setIfInBounds i true).getD X false = false → T w') ∧ wpAnyX P md ops Q X S T fuel (listed.setIfInBounds i true) a' w') a w
theorem AllReadyX.nil {fuel : Nat} {listed : Array Bool} {a : Act} {w : World} : AllReadyX P md ops Q X S T fuel listed a w [] := fun _ h => by cases h
theorem AllReadyX.cons {fuel : Nat} {listed : Array Bool} {a : Act} {w : World} {i : Nat} {o : Oper} {rs : List Nat} (ho : ops[i]? = some o)
    (h : ∀ K' : Act → World → Prop, Shut (∀ a w, S w → ((listed.setIfInBounds i true).getD X false = false → T w) → wpAnyX P md ops Q X S T fuel (listed.setIfInBounds i true) a w → K' a w) → if Region.wanted o (yielded ops a.tmps) = true then Oper.wp P o a w K' Q else K' (a.put o.dst undef) w)
    (hs : AllReadyX P md ops Q X S T fuel listed a w rs) : AllReadyX P md ops Q X S T fuel listed a w (i :: rs) := fun j hj => by
  rcases List.mem_cons.1 hj with rfl | hj
  · exact wpOp_step ho (fun K' hK => h K' (fun a w h1 h2 h3 => hK a w ⟨h1, h2, h3⟩))
  · exact hs j hj
theorem wpAnyX_ready {fuel : Nat} {listed : Array Bool} {a : Act} {w : World} (rs : List Nat) (h : AllReadyX P md ops Q X S T fuel listed a w rs) (hr : Region.ready md ops listed = rs := by kernel_rfl) (hne : (rs != []) = true := by kernel_rfl) : wpAnyX P md ops Q X S T (fuel + 1) listed a w :=
  ⟨fun h0 => absurd (hr ▸ h0) (by simpa using hne), hr ▸ h⟩
/-- an operation whose run is known -/
theorem readyV {o : Oper} {a : Act} {w w' : World} {K : Act → World → Prop} {v : Value} (d : Nat) (hw : Region.wanted o (yielded ops a.tmps) = true) (hd : o.dst = some d) (hr : (execOp a.eval o).run P w = .ok (.value v) w') (h : K (a.put (some d) v) w') : if Region.wanted o (yielded ops a.tmps) = true then Oper.wp P o a w K Q else K (a.put o.dst undef) w := by
  rw [← hd] at h
  rw [if_pos hw]
  unfold Oper.wp
  rw [hr]
  exact h
theorem readyU {o : Oper} {a : Act} {w w' : World} {K : Act → World → Prop} (hw : Region.wanted o (yielded ops a.tmps) = true) (hd : o.dst = none) (hr : (execOp a.eval o).run P w = .ok .skip w') (h : K (a.put none undef) w') : if Region.wanted o (yielded ops a.tmps) = true then Oper.wp P o a w K Q else K (a.put o.dst undef) w := by
  rw [← hd] at h
  rw [if_pos hw]
  unfold Oper.wp
  rw [hr]
  exact h
theorem exec_append {a : Act} {o : Oper} {w w' : World} {s x : Operand} {t : TypeId} {v vs vx : Value} (ho : o.op = .call { callee := .builtin .append, args := #[s, x], argTypes := #[t, t] }) (hs : a.eval s = vs) (hx : a.eval x = vx) (hrun : (Builtin.append_ #[t, t] o.type #[vs, vx]).run P w = .ok v w') : (execOp a.eval o).run P w = .ok (.value v) w' := by
  simp [execOp, ho, resolve, invoke, builtin, hs, hx, hrun, Result.andThen]
end
end Go.Proofs.YtcplnodfcchdhaaGreat

/-
  A state in its box: where it is read; numbers that are small are well formed.
-/
namespace Go.Proofs.YtcplnodfcchdhaaGreat
open Go.RowKit
set_option linter.unusedVariables false
/-- a box bears a state -/
structure StB (w : World) (b : Nat) (y : Sls) (s : St) : Prop where
  box : Blk w b (svc y s) 29
  row : SRow w y s
  cap : y.ql ≤ y.qc
theorem StB.below {w w' : World} {b : Nat} {y : Sls} {s : St} (h : StB w b y s) (hb : Below w.heap.size w w') : StB w' b y s := ⟨h.box.below hb, h.row.below hb, h.cap⟩
theorem StB.new {B : Nat} {w : World} {y : Sls} {s : St} {hs : List AV} (h : SHas B w y s hs) : StB (w.alloc (.cells (svc y s) 29)) w.heap.size y s := ⟨blk_new _ _ _, h.ans.row.below (below_al (Below.refl _ w) _), h.cap.q⟩
theorem StB.read {w : World} {b : Nat} {y : Sls} {s : St} (h : StB w b y s) : w.cell? ⟨b, 0, none⟩ = some (.slice y.qa y.ql y.qc) ∧ w.cell? ⟨b, 1, none⟩ = some (.int .i64 s.clock) ∧ w.cell? ⟨b, 2, none⟩ = some (.int .i64 s.epoch) ∧ w.cell? ⟨b, 3, none⟩ = some (.int .i64 s.next) ∧ w.cell? ⟨b, 4, none⟩ = some (.int .i64 s.serial) ∧ w.cell? ⟨b, 5, none⟩ = some (.slice y.aa y.al y.ac) ∧ w.cell? ⟨b, 6, none⟩ = some (.slice y.ma y.ml y.mc) ∧ w.cell? ⟨b, 7, none⟩ = some (.slice y.ca y.cl y.cc) :=
  ⟨h.box.at 0, h.box.at 1, h.box.at 2, h.box.at 3, h.box.at 4, h.box.at 5, h.box.at 6, h.box.at 7⟩
theorem wf_small {x : Int} (h0 : -1000000000000 ≤ x) (h1 : x ≤ 1000000000000) : (Lit.int .i64 x).wf = true := by
  simp only [Lit.wf, Bool.and_eq_true, decide_eq_true_eq]
  exact ⟨Int.le_trans (by decide) h0, Int.le_trans h1 (by decide)⟩
end Go.Proofs.YtcplnodfcchdhaaGreat

/-
  Numbers of applications and of containers' applications are those of an int.
-/
namespace Go.Proofs.YtcplnodfcchdhaaGreat
open Go.RowKit Go.Maps
set_option linter.unusedVariables false
/-- numbers that are numbers -/
def WfSt (s : St) : Prop := (∀ a ∈ s.apps, (Lit.int .i64 a.id).wf = true) ∧ (∀ c ∈ s.cs, (Lit.int .i64 c.app).wf = true)
theorem heads_wf {w : World} {hs : List AV} {l : List Appl} (hh : Heads w hs l) (h : ∀ a ∈ l, (Lit.int .i64 a.id).wf = true) : ∀ v ∈ hs, (Lit.int .i64 v.id).wf = true := fun v hv => by
  obtain ⟨i, hi, rfl⟩ := List.mem_iff_getElem.1 hv
  have hi' : i < l.length := by rw [← hh.1]; exact hi
  rw [(hh.2 i hi hi').1]
  exact h _ (List.getElem_mem _)
end Go.Proofs.YtcplnodfcchdhaaGreat
