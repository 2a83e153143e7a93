/-
  The heap of leaves: two change their places; walks over the dump.
-/
import Derived.Test.YtbgamlegiikggaaGreatStdI
import Derived.Deep.RegionWith
import Derived.BigRegion
import Derived.Lib.ItoaMem
namespace Go.Proofs.YtbgamlegiikggaaGreat
open Go.RowKit Go.Maps
set_option linter.unusedVariables false
set_option linter.unusedSimpArgs false

theorem own_any {w : World} {B b cap : Nat} {l : List SE} (h : w.ownsRow B 68 5 (.slice (some ⟨b, 0, none⟩) l.length cap) l.length (stcs l)) {i : Nat} (hi : i < l.length) {r : Nat} (hr : r < 5) : ∃ v, w.cell? ⟨b, i * 5 + r, none⟩ = some v := by
  have := h.cellAt (i * 5 + r) (by omega)
  rw [this]
  exact ⟨_, List.getElem?_eq_getElem (by rw [stcs_len]; omega)⟩
theorem own_cell {w : World} {B b cap n sz j : Nat} {e : TypeId} {xs : List Value} (h : w.ownsRow B e sz (.slice (some ⟨b, 0, none⟩) n cap) n xs) (hj : j < n * sz) : ∃ u, w.cell? ⟨b, j, none⟩ = some u := by
  have := h.cellAt j hj
  rw [this]
  exact ⟨_, List.getElem?_eq_getElem (by rw [h.1]; exact hj)⟩
theorem HSt.swapped {K : List P4} {F : List Fr3} {w0 w : World} {bm bk g b cap i j : Nat} {l : List SE} (h : HSt K F w0 bm bk g w l) (hb : Blk w g #[.slice (some ⟨b, 0, none⟩) l.length cap, cloV bk] 60) (hi : i < l.length) (hj : j < l.length) :
    HSt K F w0 bm bk g (stW (stW w b i (HeapM.at' seD l j)) b j (HeapM.at' seD l i)) (HeapM.swapL seD l i j) := by
  obtain ⟨_, hown, hFx⟩ := h.obj hb
  obtain ⟨b', cap', e, hbb, _⟩ := own_open (n := 0) hown (by omega)
  cases e
  obtain ⟨_, h3, h4, h5, h6, h7, h8⟩ := h
  have hFb : ∀ f ∈ F, f.1 ≠ b := fun f hf e => hFx f hf (by rw [e]; rfl)
  have hn : ∀ (P : World → Prop), (∀ wx p v, P wx → P (wx.setCell ⟨b, p, none⟩ v)) → ∀ wx k x, P wx → P (stW wx b k x) := fun P hp wx k x hx => hp _ _ _ (hp _ _ _ (hp _ _ _ (hp _ _ _ (hp _ _ _ hx))))
  have o1 := own_stset hown hi (HeapM.at' seD l j)
  have hl1 : (l.set i (HeapM.at' seD l j)).length = l.length := by simp
  have o2 := own_stset (l := l.set i (HeapM.at' seD l j)) (by rw [hl1]; exact o1) (by rw [hl1]; exact hj) (HeapM.at' seD l i)
  rw [hl1] at o2
  refine ⟨⟨.slice (some ⟨b, 0, none⟩) l.length cap, ?_, ?_, hFx⟩, ?_, ?_, h5, ?_, ?_, fun f hf => ⟨?_, (h8 f hf).2⟩⟩
  · exact hn (fun wx => Blk wx g _ _) (fun wx p v hx => hx.other b p v (by omega)) _ _ _ (hn (fun wx => Blk wx g _ _) (fun wx p v hx => hx.other b p v (by omega)) _ _ _ hb)
  · rw [HeapM.swap_len]
    exact o2
  · exact hn (fun wx => Blk wx bk _ _) (fun wx p v hx => hx.other b p v (by omega)) _ _ _ (hn (fun wx => Blk wx bk _ _) (fun wx p v hx => hx.other b p v (by omega)) _ _ _ h3)
  · have hk : ∀ wx p v, HoldsK K bm wx → HoldsK K bm (wx.setCell ⟨b, p, none⟩ v) := fun wx p v hx => hx.grown (grownBy_set (grownBy_refl wx (some b)) p v) (by simp; omega)
    exact hn (HoldsK K bm) hk _ _ _ (hn (HoldsK K bm) hk _ _ _ h4)
  · intro x hx
    have := (HeapM.swap_perm seD l i j hi hj).subset hx
    exact h6 x this
  · exact hn (fun wx => Below w0.heap.size w0 wx) (fun wx p v hx => below_sc hx _ _ _ (by omega)) _ _ _ (hn (fun wx => Below w0.heap.size w0 wx) (fun wx p v hx => below_sc hx _ _ _ (by omega)) _ _ _ h7)
  · exact hn (fun wx => Blk wx f.1 _ _) (fun wx p v hx => hx.other b p v (hFb f hf)) _ _ _ (hn (fun wx => Blk wx f.1 _ _) (fun wx p v hx => hx.other b p v (hFb f hf)) _ _ _ (h8 f hf).1)

set_option maxRecDepth 100000 in
set_option maxHeartbeats 4000000 in
theorem stSwap_any (K : List P4) (F : List Fr3) (w0 : World) (bm bk g : Nat) (w : World) (l : List SE) (x y : Value) (i j : Nat) (h : HSt K F w0 bm bk g w l) (hb : w.heap[g]? = some (.cells #[x, y] 60 (0, 0))) (hi : i < l.length) (hj : j < l.length) (hl : l.length ≤ 1000000) :
    Calls Tryz.prog 182 #[.agg #[x, y], .int .i64 (i : Int), .int .i64 (j : Int)] w fun e w' => e = .returned (.tuple #[]) ∧ HSt K F w0 bm bk g w' (HeapM.swapL seD l i j) := by
  obtain ⟨rfl, hown, _⟩ := h.obj hb
  obtain ⟨b, cap, rfl, hbb, hcap⟩ := own_open (n := 0) hown (by omega)
  have hb0 := below_al (Below.refl _ w) (.cells #[.slice (some ⟨b, 0, none⟩) l.length cap, cloV bk] 60)
  have hb1 := hb0.drew
  have B0 := blk_new w #[.slice (some ⟨b, 0, none⟩) l.length cap, cloV bk] 60
  have hown0 := hown.alloc (.cells #[.slice (some ⟨b, 0, none⟩) l.length cap, cloV bk] 60)
  have HH := hide (((h.below hb0).swapped (Blk.below (show Blk w g _ _ from hb) hb0) hi hj).below (Below.refl _ _).drew)
  obtain ⟨a0, a1, a2, a3, a4⟩ := own_elt hown0 hi
  obtain ⟨d0, d1, d2, d3, d4⟩ := own_elt hown0 hj
  have fz := fun r => hown0.frozenAt r
  obtain ⟨⟨n1, p1, p2, p3, p4⟩, hs1⟩ : ∃ s, HeapM.at' seD l i = s := ⟨_, rfl⟩
  obtain ⟨⟨n2, q1, q2, q3, q4⟩, hs2⟩ : ∃ s, HeapM.at' seD l j = s := ⟨_, rfl⟩
  rw [hs1] at a0 a1 a2 a3 a4 HH
  rw [hs2] at d0 d1 d2 d3 d4 HH
  simp only [stW] at a0 a1 a2 a3 a4 d0 d1 d2 d3 d4 HH
  have h1 := own_set hown0 (j := i * 5) (by omega) (.string (bs n2))
  have h2 := own_set h1 (j := i * 5 + 1) (by omega) (.int .i64 q1)
  have h3 := own_set h2 (j := i * 5 + 2) (by omega) (.int .i64 q2)
  have h4 := own_set h3 (j := i * 5 + 3) (by omega) (.int .i64 q3)
  have h5 := own_set h4 (j := i * 5 + 4) (by omega) (.int .i64 q4)
  obtain ⟨u0, m0⟩ := own_cell h1 (j := j * 5) (by omega)
  obtain ⟨u1, m1⟩ := own_cell h2 (j := j * 5 + 1) (by omega)
  obtain ⟨u2, m2⟩ := own_cell h3 (j := j * 5 + 2) (by omega)
  obtain ⟨u3, m3⟩ := own_cell h4 (j := j * 5 + 3) (by omega)
  obtain ⟨u4, m4⟩ := own_cell h5 (j := j * 5 + 4) (by omega)
  have c0 := B0.at 0
  simp at c0
  have hblt := (hown.lt b rfl).2
  have hbn : ¬ b = w.heap.size := by omega
  have hbn2 : ¬ w.heap.size = b := by omega
  have hij : (i : Int) < l.length := by omega
  have hjj : (j : Int) < l.length := by omega
  have f0 := fz (i * 5); have f1 := fz (i * 5 + 1); have f2 := fz (i * 5 + 2); have f3 := fz (i * 5 + 3); have f4 := fz (i * 5 + 4)
  have g0 := fz (j * 5); have g1 := fz (j * 5 + 1); have g2 := fz (j * 5 + 2); have g3 := fz (j * 5 + 3); have g4 := fz (j * 5 + 4)
  clear hblt h hb hown hown0 hs1 hs2 hb0 hb1 B0 fz h1 h2 h3 h4 h5
  go_enter Tryz.func182, Tryz.ntmps182
  go_wp2_with fail
  go_region
  all_goals
    go_wp2
    go_end0
    exact ⟨rfl, unhide HH⟩
end Go.Proofs.YtbgamlegiikggaaGreat
