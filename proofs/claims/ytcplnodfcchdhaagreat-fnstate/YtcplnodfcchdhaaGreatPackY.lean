/-
  Several texts of this claim in one: SubS, Held, FreeOnS, StoC (pack.py put them together); each says in its own remark what is proved.
-/
import Derived.Test.YtcplnodfcchdhaaGreatPackK
import Derived.Test.YtcplnodfcchdhaaGreatStAll
import Derived.Test.YtcplnodfcchdhaaGreatPackD
import Derived.Test.YtcplnodfcchdhaaGreatPackX
import Derived.Deep.RegionHeld3
import Derived.Deep.CutRange
import Derived.Test.YtcplnodfcchdhaaGreatPackA
import Derived.Laws.Tables
import Derived.Deep.MidRow
import Derived.Great.BuildSlice
/-
  What the model's Sub answers; a walk over the dump.
-/
namespace Go.Proofs.YtcplnodfcchdhaaGreat
open Go.RowKit
set_option linter.unusedVariables false
set_option maxRecDepth 100000 in
set_option maxHeartbeats 1000000 in
theorem specSub_any (a b c d : Int) (w : World) :
    Calls Tryz.prog 48 #[rv a b, rv c d] w fun e w' => e = .returned (.tuple #[bothV (-1) a b c d, .bool (bothOk (-1) a b c d)]) ∧ Below w.heap.size w w' := by
  have hv : ∃ x y, bothV (-1) a b c d = rv x y := by unfold bothV; split <;> exact ⟨_, _, rfl⟩
  obtain ⟨x, y, hv⟩ := hv
  have hc := l02Both_any a b c d (-1) ((w.alloc (.cells #[.int .i64 a, .int .i64 b] 33)).alloc (.cells #[.int .i64 c, .int .i64 d] 33) |>.alloc (.cells #[.int .i64 0, .int .i64 0] 33)) (by decide)
  rw [hv] at hc ⊢
  go_enter Tryz.func48, Tryz.ntmps48
  go_wp2_with fail
  refine hc.mono ?_
  rintro e w1 ⟨rfl, hb⟩
  have hk : Var w1 33 (w.heap.size + 1 + 1) 0 0 := Var.below (by simpa using var_new ((w.alloc (.cells #[.int .i64 a, .int .i64 b] 33)).alloc (.cells #[.int .i64 c, .int .i64 d] 33)) 33 0 0) hb
  have k0 := hk.c0
  have k1 := hk.c1
  have k2 := hk.f 0
  have k3 := hk.f 1
  have k4 := hk.s0 (.int .i64 x)
  have k5 := hk.s1 (.int .i64 x) (.int .i64 y)
  have HB := hide (below_on (below_al (below_al (below_al (Below.refl _ _) _) _) _) hb)
  clear hb hc hk
  go_wp2
  refine bodyPost_ret (v := .tuple #[rv x y, .bool (bothOk (-1) a b c d)]) (by simp [results, Tryz.results48, go_sem, k4, k5]) rfl ⟨rfl, ?_⟩
  repeat (first | exact unhide HB | refine below_al ?_ _ | refine below_sc ?_ _ _ _ (by omega))
end Go.Proofs.YtcplnodfcchdhaaGreat

/-
  Blocks that stand while a region is run, in whatever order: one word for them.
-/
namespace Go.Proofs.YtcplnodfcchdhaaGreat
open Go.RowKit
set_option linter.unusedVariables false
/-- the blocks of L stand, all of them ahead of n; nothing of w0 has turned -/
def Held (w0 : World) (n : Nat) (L : List (Nat × Array Value × TypeId)) (wx : World) : Prop :=
  (∀ p ∈ L, p.1 < n ∧ Blk wx p.1 p.2.1 p.2.2) ∧ n ≤ wx.heap.size ∧ w0.heap.size ≤ n ∧ Below w0.heap.size w0 wx
theorem held_holds (w0 : World) (n : Nat) (L : List (Nat × Array Value × TypeId)) : Holds (Held w0 n L) w0 n where
  call := fun h hb => ⟨fun p hp => ⟨(h.1 p hp).1, (h.1 p hp).2.below hb⟩, Nat.le_trans h.2.1 hb.size, h.2.2.1, below_on h.2.2.2 hb⟩
  set := fun k j v h hk => ⟨fun p hp => ⟨(h.1 p hp).1, (h.1 p hp).2.other k j v (by have := (h.1 p hp).1; omega)⟩, by rw [set_size]; exact h.2.1, h.2.2.1, below_sc h.2.2.2 _ _ _ (Nat.le_trans h.2.2.1 hk)⟩
  size := fun h => h.2.1
  below := fun h => h.2.2.2
theorem Held.blk {w0 : World} {n : Nat} {L : List (Nat × Array Value × TypeId)} {wx : World} (h : Held w0 n L wx) {p : Nat × Array Value × TypeId} (hp : p ∈ L) : Blk wx p.1 p.2.1 p.2.2 := (h.1 p hp).2
theorem Var.blk {w : World} {t : TypeId} {g : Nat} {x y : Int} (h : Var w t g x y) : Blk w g #[.int .i64 x, .int .i64 y] t := h
theorem Blk.var {w : World} {t : TypeId} {g : Nat} {x y : Int} (h : Blk w g #[.int .i64 x, .int .i64 y] t) : Var w t g x y := h
end Go.Proofs.YtcplnodfcchdhaaGreat

/-
  What is free on a machine, by the model: FreeOn; a walk over the dump.
-/
namespace Go.Proofs.YtcplnodfcchdhaaGreat
open Go.RowKit Go.Maps
set_option linter.unusedVariables false
set_option maxRecDepth 100000 in
set_option maxHeartbeats 4000000 in
theorem specFreeOn_any (x : Sls) (s : St) (nm : List UInt8) (w : World) (h : SRow w x s) (hf : FitSt s) :
    Calls Tryz.prog 16 #[sv x s, .string (bs nm)] w fun e w' => e = .returned (rv (freeOnV s nm).1 (freeOnV s nm).2) ∧ Below w.heap.size w w' := by
  have hml : x.ml ≤ 1048576 := by have := h.len.2.2.1; have := hf.2.2.1.1; omega
  have hcl : x.cl ≤ 1048576 := by have := h.len.2.2.2; have := hf.2.2.2.1; omega
  have CM := hide (fun wx (hb : Below w.heap.size w wx) => l04Machine_any x s nm wx (h.2.2.1.below hb) hml)
  have CU := hide (fun wx (hb : Below w.heap.size w wx) => specUsedOn_v x s nm wx (h.2.2.2.below hb) hcl)
  have HFV := hide (show freeOnV s nm = match findM nm s.ms with | none => (0, 0) | some m => lessV m.mem m.cpu (usedOnV s nm).1 (usedOnV s nm).2 from rfl)
  have HMR := hide (fun wx (hb : Below w.heap.size w wx) => h.2.2.1.below hb)
  have HML := hide h.2.2.1.1
  have hat := macAt_find nm s.ms
  obtain ⟨⟨ux, uy⟩, hu⟩ : ∃ u, usedOnV s nm = u := ⟨_, rfl⟩
  obtain ⟨⟨fx, fy⟩, hfr⟩ : ∃ u, freeOnV s nm = u := ⟨_, rfl⟩
  obtain ⟨at0, ha⟩ : ∃ p, macAt s.ms nm = p := ⟨_, rfl⟩
  rw [hu] at CU HFV
  rw [hfr] at HFV ⊢
  rw [ha] at CM hat
  clear h hf hu hfr ha
  obtain ⟨qa, ql, qc, aa, al, ac, ma, ml, mc, ca, cl, cc⟩ := x
  obtain ⟨qs, clock, epoch, next, serial, apps, ms, cs⟩ := s
  simp only at HFV HMR HML hat
  have HB0 := hide (capW_below w (svc ⟨qa, ql, qc, aa, al, ac, ma, ml, mc, ca, cl, cc⟩ ⟨qs, clock, epoch, next, serial, apps, ms, cs⟩))
  have V0 := hide (capW_var w (svc ⟨qa, ql, qc, aa, al, ac, ma, ml, mc, ca, cl, cc⟩ ⟨qs, clock, epoch, next, serial, apps, ms, cs⟩))
  have P0 := hide ((boxW_blk w (svc ⟨qa, ql, qc, aa, al, ac, ma, ml, mc, ca, cl, cc⟩ ⟨qs, clock, epoch, next, serial, apps, ms, cs⟩)).al (.cells #[.int .i64 0, .int .i64 0] 33))
  go_enter Tryz.func16, Tryz.ntmps16
  go_wp2_with fail
  refine (unhide CM _ (unhide HB0)).mono ?_
  rintro e w1 ⟨rfl, hb⟩
  have HB1 := hide (below_on (unhide HB0) hb)
  have V1 := hide ((unhide V0).below hb)
  have P1 := hide ((unhide P0).below hb)
  clear hb HB0 V0 P0 CM
  rcases hat with ⟨hfm, rfl⟩ | ⟨j, hj, hfm, rfl⟩
  · rw [hfm] at HFV
    simp only at HFV
    have hz := unhide HFV
    simp only [Prod.mk.injEq] at hz
    obtain ⟨rfl, rfl⟩ := hz
    have V2 := unhide V1
    have t0 := V2.c0
    have t1 := V2.c1
    have f0 := V2.f 0
    have f1 := V2.f 1
    have k4 := V2.s0 (.int .i64 0)
    have k5 := V2.s1 (.int .i64 0) (.int .i64 0)
    clear V2
    go_wp2
    refine bodyPost_ret (v := rv 0 0) (by simp [results, Tryz.results16, go_sem, k4, k5]) rfl ⟨rfl, ?_⟩
    repeat (first | exact unhide HB1 | refine below_al ?_ _ | refine below_sc ?_ _ _ _ (by omega))
  · rw [hfm] at HFV
    have hjl : j < ml := by have := unhide HML; omega
    obtain ⟨mb, mo, rfl, hq⟩ := (unhide HMR _ (unhide HB1)).at hjl
    have HQ := hide (hq hj)
    obtain ⟨⟨mn, me, mp, se⟩, hs⟩ : ∃ m, ms[j] = m := ⟨_, rfl⟩
    rw [hs] at HQ HFV
    simp only at HFV
    have HRV := hide (show bothV (-1) me mp ux uy = rv fx fy by rw [less_both, ← unhide HFV])
    have CB := hide (fun wx => by have := specSub_any me mp ux uy wx; rw [unhide HRV] at this; exact this)
    obtain ⟨ok, hok⟩ : ∃ o, bothOk (-1) me mp ux uy = o := ⟨_, rfl⟩
    rw [hok] at CB
    have j0 : (0 : Int) ≤ j := by omega
    have j1 : (j : Int) < ml := by omega
    clear hok HRV HFV hfm hq hs hj
    have R : ∀ wx, Kp w1 wx → wx.cell? ⟨w.heap.size, 0, none⟩ = some (.slice qa ql qc) ∧ wx.cell? ⟨w.heap.size, 1, none⟩ = some (.int .i64 clock) ∧ wx.cell? ⟨w.heap.size, 2, none⟩ = some (.int .i64 epoch) ∧ wx.cell? ⟨w.heap.size, 3, none⟩ = some (.int .i64 next) ∧ wx.cell? ⟨w.heap.size, 4, none⟩ = some (.int .i64 serial) ∧ wx.cell? ⟨w.heap.size, 5, none⟩ = some (.slice aa al ac) ∧ wx.cell? ⟨w.heap.size, 6, none⟩ = some (.slice (some ⟨mb, mo, none⟩) ml mc) ∧ wx.cell? ⟨w.heap.size, 7, none⟩ = some (.slice ca cl cc) ∧ wx.cell? ⟨mb, mo + j * 4 + 1, none⟩ = some (.int .i64 me) ∧ wx.cell? ⟨mb, mo + j * 4 + 2, none⟩ = some (.int .i64 mp) := fun wx h =>
      ⟨h.cell ((unhide P1).at 0), h.cell ((unhide P1).at 1), h.cell ((unhide P1).at 2), h.cell ((unhide P1).at 3), h.cell ((unhide P1).at 4), h.cell ((unhide P1).at 5), h.cell ((unhide P1).at 6), h.cell ((unhide P1).at 7), h.cell (unhide HQ).2.1, h.cell (unhide HQ).2.2.1⟩
    have A0 := hide (Kp.new w1)
    have HS := hide (kp_holds w1)
    have hw1 := (unhide V1).lt
    go_wp2_with fail
    go_cut [6, 7] from 14 to 26 (fun v7 v8 wx => ∃ g, v7 = .pointer (some ⟨g, 0, none⟩) ∧ v8 = .bool ok ∧ Kp w1 wx ∧ Var wx 33 g fx fy ∧ w1.heap.size ≤ g)
    case first =>
      go_region_held3 (fun wx => Kp w1 wx)
        (first | (with_reducible assumption) | exact unhide SA | exact (unhide HS).drew (unhide A0) | exact (unhide HS).al (unhide SA) _ | exact (unhide HS).al (by assumption) _ | exact (unhide HS).al ((unhide HS).drew (unhide A0)) _ | exact (unhide HS).call (by assumption) (by assumption) | exact (unhide HS).set2 (unhide SA) _ _ _ (by first | omega | (simp <;> omega)) | exact (unhide HS).set2 (by assumption) _ _ _ (by first | omega | (simp <;> omega)))
        (first
        | (go_at_call 17; refine (unhide CU _ ?_).mono ?_; (exact below_on (unhide HB1) ((unhide HS).below (by assumption))); rintro e wt ⟨rfl, hb⟩; have SA := hide ((unhide HS).call (by assumption) hb); have sz := (unhide HS).size (unhide SA)
           first
             | (have V5 := (var_new _ 33 0 0).below hb; (try simp at V5); have c50 := V5.c0; have c51 := V5.c1; have f50 := V5.f 0; have f51 := V5.f 1; have V5 := hide V5)
             | (have V5 := (var_new _ 33 0 0).drew.below hb; (try simp at V5); have c50 := V5.c0; have c51 := V5.c1; have f50 := V5.f 0; have f51 := V5.f 1; have V5 := hide V5)
             | skip)
        | (go_at_call 48; refine (unhide CB _).mono ?_; rintro e wt ⟨rfl, hb⟩; have SA := hide ((unhide HS).call (by assumption) hb); have sz := (unhide HS).size (unhide SA)
           first
             | (have V5 := (var_new _ 33 0 0).below hb; (try simp at V5); have c50 := V5.c0; have c51 := V5.c1; have f50 := V5.f 0; have f51 := V5.f 1; have V5 := hide V5)
             | (have V5 := (var_new _ 33 0 0).drew.below hb; (try simp at V5); have c50 := V5.c0; have c51 := V5.c1; have f50 := V5.f 0; have f51 := V5.f 1; have V5 := hide V5)
             | (have V5 := hide ((unhide V5).below hb); have c50 := (unhide V5).c0; have c51 := (unhide V5).c1; have f50 := (unhide V5).f 0; have f51 := (unhide V5).f 1)
             | skip))
      all_goals
        go_wp2_with fail
        go_meet
        exact ⟨_, rfl, rfl, by first | assumption | exact unhide SA | exact (unhide HS).al (unhide SA) _, by first | exact var_new _ _ _ _ | exact (unhide V5).set _ _, by first | omega | (simp <;> omega)⟩
    case rest =>
      obtain ⟨g, rfl, rfl, hA, hV, hg⟩ := hcut
      have HB2 := hide (below_on (unhide HB1) hA)
      have v0 := hV.c0
      have v1 := hV.c1
      have V2 := (unhide V1).below hA
      have t0 := V2.c0
      have t1 := V2.c1
      have f0 := V2.f 0
      have f1 := V2.f 1
      have k4 := V2.s0 (.int .i64 fx)
      have k5 := V2.s1 (.int .i64 fx) (.int .i64 fy)
      clear hA hV A0 CB CU R V2 V1 P1 HB1
      go_wp2
      refine bodyPost_ret (v := rv fx fy) (by simp [results, Tryz.results16, go_sem, k4, k5]) rfl ⟨rfl, ?_⟩
      repeat (first | exact unhide HB2 | refine below_al ?_ _ | refine below_sc ?_ _ _ _ (by omega))
end Go.Proofs.YtcplnodfcchdhaaGreat

/-
  A store into one cell of a block that is known, and of a whole struct into its variable: what they leave.
-/
namespace Go.Proofs.YtcplnodfcchdhaaGreat
open Go.RowKit
theorem put_cell {P : Program} {w : World} {b j : Nat} {arr : Array Value} {t : TypeId} (ty : TypeId) (v : Value) (h : Blk w b arr t) (hj : j < arr.size) (hi : (P.info? ty).map (·.size) = some 1) (h1 : v.oneCell' = true) :
    (Instr.storeAt ty (.pointer (some ⟨b, j, none⟩)) v).run P w = .ok () (w.setCell ⟨b, j, none⟩ v) := by
  have c1 : w.cell? ⟨b, j, none⟩ = some arr[j] := by rw [h.at]; simp [hj]
  have f1 := h.f j
  have hs := run_storeCells_cells (P := P) b j [v] 0 w (fun i hi => by simp at hi; subst hi; simp [c1]) (fun i hi => by simp at hi; subst hi; simpa using f1) (fun u hu => by simp at hu; subst hu; exact h1)
  simp only [Nat.add_zero] at hs
  have hc : v.cells = #[v] := by cases v <;> first | rfl | cases h1
  cases hq : P.info? ty with
  | none => simp [hq] at hi
  | some i =>
    have hz : i.size = 1 := by simpa [hq] using hi
    simp [Instr.storeAt, Instr.sureAddr, storeVar, sizeOf, typeInfo, hq, hc, hz, hs]
    rfl
theorem blk_store {P : Program} {w : World} {b : Nat} {old arr : Array Value} {t : TypeId} (ty : TypeId) (h : Blk w b old t) (hi : (P.info? ty).map (·.size) = some arr.size) (ho : old.size = arr.size) (h1 : arr.all (·.oneCell') = true) :
    (Instr.storeAt ty (.pointer (some ⟨b, 0, none⟩)) (.agg arr)).run P w = .ok () (w.setRow b arr) := by
  simp only [Instr.storeAt, Instr.sureAddr, Sem.run_bind, Sem.run_pure, Result.andThen]
  exact run_storeVar_row w b t ty old arr h hi ho h1
theorem run_allocv {P : Program} (w : World) (t : TypeId) (z : Array Value) (hz : (P.info? t).map (·.zero) = some (some (.agg z))) :
    (Instr.alloc t true (.tuple #[])).run P w = .ok (.pointer (some ⟨w.heap.size, 0, none⟩)) (w.alloc (.cells z t)) := by
  cases hq : P.info? t with
  | none => simp [hq] at hz
  | some i =>
    have h : i.zero = some (.agg z) := by simpa [hq] using hz
    simp [Instr.alloc, zeroValue, typeInfo, hq, h, newVar, newRow, Value.cells, go_sem]
theorem run_bs {P : Program} (w : World) (t e : TypeId) (len sz : Nat) (parts : Array (Nat × Value)) (z : Value) (cells : Array Value) (hu : P.underlying t = some (.slice e)) (hi : (P.info? e).map (fun i => (i.zero, i.size)) = some (some z, sz)) (hs : len * sz ≤ 16777216) (hp : 0 < len * sz)
    (hf : Instr.fill (fun i => some (i * sz, sz)) ((Array.range (len * sz)).map (z.cells[· % z.cells.size]!)) parts.toList = some cells) :
    (Instr.buildSlice t len parts).run P w = .ok (.slice (some ⟨w.heap.size, 0, none⟩) len len) (w.alloc (.cells cells e)) := by
  cases hq : P.info? e with
  | none => simp [hq] at hi
  | some i =>
    simp only [hq, Option.map_some, Option.some.injEq, Prod.mk.injEq] at hi
    obtain ⟨h1, rfl⟩ := hi
    exact run_buildSlice w t e len parts cells i z hu hq h1 (by omega) (by omega) hf
theorem fill5 (a b c d e : Value) (base : Array Value) (hb : base.size = 5) : Instr.fill (fun i => some (i * 5, 5)) base [(0, .agg #[a, b, c, d, e])] = some #[a, b, c, d, e] := by
  obtain ⟨l⟩ := base
  match l, hb with
  | [_, _, _, _, _], _ => rfl
theorem run_bs5 {P : Program} (w : World) (t e : TypeId) (parts : Array (Nat × Value)) (z : Value) (a b c d f : Value) (hu : P.underlying t = some (.slice e)) (hi : (P.info? e).map (fun i => (i.zero, i.size)) = some (some z, 5)) (hp : parts = #[(0, .agg #[a, b, c, d, f])]) :
    (Instr.buildSlice t 1 parts).run P w = .ok (.slice (some ⟨w.heap.size, 0, none⟩) 1 1) (w.alloc (.cells #[a, b, c, d, f] e)) := by
  subst hp
  exact run_bs w t e 1 5 _ z _ hu hi (by decide) (by decide) (fill5 a b c d f _ (by simp))
theorem fill3 (a b c : Value) (base : Array Value) (hb : base.size = 3) : Instr.fill (fun i => some (i * 3, 3)) base [(0, .agg #[a, b, c])] = some #[a, b, c] := by
  obtain ⟨l⟩ := base
  match l, hb with
  | [_, _, _], _ => rfl
theorem run_bs3 {P : Program} (w : World) (t e : TypeId) (parts : Array (Nat × Value)) (z : Value) (a b c : Value) (hu : P.underlying t = some (.slice e)) (hi : (P.info? e).map (fun i => (i.zero, i.size)) = some (some z, 3)) (hp : parts = #[(0, .agg #[a, b, c])]) :
    (Instr.buildSlice t 1 parts).run P w = .ok (.slice (some ⟨w.heap.size, 0, none⟩) 1 1) (w.alloc (.cells #[a, b, c] e)) := by
  subst hp
  exact run_bs w t e 1 3 _ z _ hu hi (by decide) (by decide) (fill3 a b c _ (by simp))
theorem app_load {w : World} {b : Nat} {arr : Array Value} (h : Blk w b arr 41) (hs : arr.size = 3) : (Instr.loadAt 41 (.pointer (some ⟨b, 0, none⟩))).run Tryz.prog w = .ok (.agg arr) w := by
  simp only [Instr.loadAt, Instr.sureAddr, Sem.run_bind, Sem.run_pure, Result.andThen]
  exact run_loadVar_row w b 41 41 arr (0, 0) _ h Tryz.underlying41 rfl (by rw [show (Tryz.prog.info? 41).map (·.size) = some 3 by kernel_rfl, hs])
theorem cont_load {w : World} {b : Nat} {arr : Array Value} (h : Blk w b arr 72) (hs : arr.size = 5) : (Instr.loadAt 72 (.pointer (some ⟨b, 0, none⟩))).run Tryz.prog w = .ok (.agg arr) w := by
  simp only [Instr.loadAt, Instr.sureAddr, Sem.run_bind, Sem.run_pure, Result.andThen]
  exact run_loadVar_row w b 72 72 arr (0, 0) _ h Tryz.underlying72 rfl (by rw [show (Tryz.prog.info? 72).map (·.size) = some 5 by kernel_rfl, hs])
theorem state_load {w : World} {b : Nat} {arr : Array Value} (h : Blk w b arr 29) (hs : arr.size = 8) : (Instr.loadAt 29 (.pointer (some ⟨b, 0, none⟩))).run Tryz.prog w = .ok (.agg arr) w := by
  simp only [Instr.loadAt, Instr.sureAddr, Sem.run_bind, Sem.run_pure, Result.andThen]
  exact run_loadVar_row w b 29 29 arr (0, 0) _ h Tryz.underlying29 rfl (by rw [show (Tryz.prog.info? 29).map (·.size) = some 8 by kernel_rfl, hs])
end Go.Proofs.YtcplnodfcchdhaaGreat
