/-
  The heap of leaves: one more, and the last one taken off; walks over the dump.
-/
import Derived.Test.YtbgamlegiikggaaGreatStdJ
namespace Go.Proofs.YtbgamlegiikggaaGreat
open Go.RowKit Go.Maps
set_option linter.unusedVariables false
set_option linter.unusedSimpArgs false

theorem HSt.pushed {K : List P4} {F : List Fr3} {w0 w : World} {bm bk g : Nat} {l : List SE} {v : Value} {z : SE} (h : HSt K F w0 bm bk g w l) (hF : ∀ f ∈ F, f.2.2 ≠ 68) (hz : z.2 ∈ K) {v' : Value} {w1 w2 : World} (hb : Below w.heap.size w w1) (hown : w1.ownsRow (g + 1) 68 5 v l.length (stcs l))
    (ho : w2.ownsRow (g + 1) 68 5 v' (l.length + 1) (stcs l ++ stc z)) (hg : w1.grownBy w2 v.ownBlock) : HSt K F w0 bm bk g (w2.setCell ⟨g, 0, none⟩ v') (l ++ [z]) := by
  have hlow : ∀ k, k ≤ g → k < w1.heap.size → w2.heap[k]? = w1.heap[k]? := fun k hk hlt => hg.block k hlt (fun e => by
    have := (hown.lt k e.symm).1
    omega)
  obtain ⟨⟨v0, b1, _, _⟩, h3, h4, h5, h6, h7, h8⟩ := h
  have hFv : ∀ f ∈ F, ∀ k, v.ownBlock = some k → f.1 ≠ k := fun f hf k hk e => by
    rcases hown.2 with ⟨e2, _⟩ | ⟨b2, _, cur, e2, _, hc, _⟩
    · rw [e2] at hk; simp [Value.ownBlock] at hk
    · rw [e2] at hk
      simp [Value.ownBlock] at hk
      have := (h8 f hf).1.below hb
      unfold Blk at this
      rw [e, ← hk, hc] at this
      simp at this
      exact hF f hf this.2.symm
  have fr2 : ∀ f ∈ F, Blk w2 f.1 f.2.1 f.2.2 := fun f hf => (hg.block f.1 ((h8 f hf).1.below hb).lt (fun e => hFv f hf f.1 e.symm rfl)).trans ((h8 f hf).1.below hb)
  have b2 : Blk w1 g _ _ := b1.below hb
  have b3 : Blk w2 g _ _ := (hlow g (Nat.le_refl _) b2.lt).trans b2
  have c3 : Blk w2 bk _ _ := (hlow bk (by omega) (h3.below hb).lt).trans (h3.below hb)
  have k2 : HoldsK K bm w2 := (h4.below hb).grown hg (fun e => by have := (hown.lt bm e.symm).1; omega)
  have hFn : ∀ f ∈ F, some f.1 ≠ v'.ownBlock := fun f hf e => by
    rcases ho.2 with ⟨e2, _⟩ | ⟨b2, _, cur, e2, _, hc, _⟩
    · rw [e2] at e; simp [Value.ownBlock] at e
    · rw [e2] at e
      simp [Value.ownBlock] at e
      have := fr2 f hf
      unfold Blk at this
      rw [e, hc] at this
      simp at this
      exact hF f hf this.2.symm
  have hlen : (l ++ [z]).length = l.length + 1 := by simp
  refine ⟨⟨v', ?_, ?_, hFn⟩, c3.other g 0 v' (by omega), k2.grown (grownBy_set (grownBy_refl w2 (some g)) 0 v') (by simp; omega), h5, ?_, ?_, fun f hf => ⟨(fr2 f hf).other g 0 v' (h8 f hf).2.2, (h8 f hf).2⟩⟩
  · have := b3.set 0 v'
    simpa using this
  · rw [hlen, stcs_app]
    have e : stcs [z] = stc z := by simp [stcs]
    rw [e]
    exact ho.kept (grownBy_set (grownBy_refl w2 (some g)) 0 v') (.inr (fun e => by have := (ho.lt g e).1; omega))
  · intro x hx
    rcases List.mem_append.1 hx with hx | hx
    · exact h6 x hx
    · simp at hx; subst hx; exact hz
  · have h8 : Below w0.heap.size w0 w1 := below_on h7 hb
    have h9 : Below w0.heap.size w0 w2 := h8.grown hg h8.size (fun k e => by have := (hown.lt k e).1; omega)
    exact below_sc h9 _ _ _ (by omega)

set_option maxRecDepth 100000 in
theorem assertS (x : SE) (xt : TypeId) (wx : World) : (Instr.typeAssert (.iface 68 (stv x)) xt 68 false).run Tryz.prog wx = .ok (stv x) wx := by
  simp [Instr.typeAssert, go_sem]
theorem Tryz.infoStd : (Tryz.prog.info? 68).map (fun i => (i.zero, i.size, i.bytes)) = some (some (.agg #[.string ByteArray.empty, .int .i64 0, .int .i64 0, .int .i64 0, .int .i64 0]), 5, 48) := by kernel_rfl
set_option maxRecDepth 100000 in
set_option maxHeartbeats 4000000 in
theorem stPush_any (K : List P4) (F : List Fr3) (w0 : World) (bm bk g : Nat) (w : World) (l : List SE) (z : SE) (h : HSt K F w0 bm bk g w l) (hF : ∀ f ∈ F, f.2.2 ≠ 68) (hz : z.2 ∈ K) (hl : l.length < 1000000) :
    Calls Tryz.prog 181 #[.pointer (some ⟨g, 0, none⟩), .iface 68 (stv z)] w fun e w' => e = .returned (.tuple #[]) ∧ HSt K F w0 bm bk g w' (l ++ [z]) := by
  obtain ⟨i0, hi, hz0, hz1, hz2⟩ := info_parts Tryz.infoStd
  obtain ⟨v, b1, hown, _⟩ := h.1
  have hb1 := (below_al (Below.refl _ w) (.cells #[.string (bs z.1), .int .i64 z.2.1, .int .i64 z.2.2.1, .int .i64 z.2.2.2.1, .int .i64 z.2.2.2.2] 68)).drew
  obtain ⟨W, hW⟩ : ∃ W, (w.alloc (.cells #[.string (bs z.1), .int .i64 z.2.1, .int .i64 z.2.2.1, .int .i64 z.2.2.2.1, .int .i64 z.2.2.2.2] 68)).drew = W := ⟨_, rfl⟩
  rw [hW] at hb1
  have hbk : Blk W w.heap.size #[.string (bs z.1), .int .i64 z.2.1, .int .i64 z.2.2.1, .int .i64 z.2.2.2.1, .int .i64 z.2.2.2.2] 68 := by rw [← hW]; exact blk_new _ _ _
  have hownW : W.ownsRow (g + 1) 68 5 v l.length (stcs l) := hown.kept (grownBy_below (grownBy_refl w none) hb1) (by by_cases e : v.ownBlock = none; exact .inl e; exact .inr e)
  have hnews : ∀ j u, (stc z)[j]? = some u → W.cell? (Addr.add ⟨w.heap.size, 0, none⟩ j) = some u := fun j u hu => by
    rw [Lib.add_plain, Nat.zero_add, hbk.at j]
    simp only [stc] at hu
    simpa using hu
  obtain ⟨v', w2, hrun, hown', hgrow, _⟩ := run_append_own (P := Tryz.prog) W (g + 1) 58 58 68 i0 (.agg #[.string ByteArray.empty, .int .i64 0, .int .i64 0, .int .i64 0, .int .i64 0]) 5 48 Tryz.underlying58 hi hz0 hz1 hz2 rfl (by decide) v l.length (stcs l) hownW ⟨w.heap.size, 0, none⟩ 1 1 (stc z) (by simp [stc]) hnews (fun u hu => by simp [stc] at hu; rcases hu with rfl | rfl | rfl | rfl | rfl <;> rfl) (by unfold maxLen; omega) (by omega) (by have := b1.lt; have := hb1.size; omega)
  obtain ⟨b9, cap9, rfl⟩ : ∃ b9 cap9, v' = .slice (some ⟨b9, 0, none⟩) (l.length + 1) cap9 := by
    rcases hown'.2 with ⟨_, e⟩ | ⟨b9, cap9, _, e, _⟩
    · omega
    · exact ⟨b9, cap9, e⟩
  have HH := hide (h.pushed hF hz hb1 hownW hown' hgrow)
  have hlow : w2.heap[g]? = W.heap[g]? := hgrow.block g (b1.below hb1).lt (fun e => by have := (hownW.lt g e.symm).1; omega)
  have b3 : Blk w2 g _ _ := hlow.trans (b1.below hb1)
  have c0 := b1.at 0
  simp at c0
  have c1 := (b1.al (.cells #[.string (bs z.1), .int .i64 z.2.1, .int .i64 z.2.2.1, .int .i64 z.2.2.2.1, .int .i64 z.2.2.2.2] 68)).at 0
  simp at c1
  have c2 := b3.at 0
  simp at c2
  have f2 := b3.f 0
  have HV := hide hown.2
  have hwg : ¬ w.heap.size = g := by have := b1.lt; omega
  have hgw : ¬ g = w.heap.size := by omega
  rw [← hW] at hrun
  clear hown hownW hown' hgrow hnews hbk hb1 hW hlow b3 h b1
  obtain ⟨n1, p1, p2, p3, p4⟩ := z
  simp only at hrun c1
  have hta := assertS (n1, p1, p2, p3, p4)
  rcases unhide HV with ⟨rfl, hl0⟩ | ⟨b, cap, cur, rfl, _, _, hcap, _⟩
  all_goals
    clear HV
    simp [go_sem] at hrun
    go_enter Tryz.func181, Tryz.ntmps181
    go_wp2_with fail
    go_region
    all_goals
      go_wp2
      go_end0
      first
      | exact ⟨rfl, unhide HH⟩
      | (have hx := unhide HH; rw [hl0] at hx; exact ⟨rfl, hx⟩)

theorem HSt.popped {K : List P4} {F : List Fr3} {w0 w : World} {bm bk g b cap : Nat} {l : List SE} (h : HSt K F w0 bm bk g w l) (hb : Blk w g #[.slice (some ⟨b, 0, none⟩) l.length cap, cloV bk] 60) {n : Nat} (hn : n ≤ l.length) :
    HSt K F w0 bm bk g (w.setCell ⟨g, 0, none⟩ (.slice (some ⟨b, 0, none⟩) n cap)) (l.take n) := by
  obtain ⟨_, hown, hFx⟩ := h.obj hb
  obtain ⟨_, h3, h4, h5, h6, h7, h8⟩ := h
  have hlen : (l.take n).length = n := by simp; omega
  refine ⟨⟨.slice (some ⟨b, 0, none⟩) n cap, ?_, ?_, hFx⟩, h3.other g 0 _ (by omega), h4.grown (grownBy_set (grownBy_refl w (some g)) 0 _) (by simp; omega), h5, fun x hx => h6 x (List.mem_of_mem_take hx), below_sc h7 _ _ _ (by omega), fun f hf => ⟨(h8 f hf).1.other g 0 _ (h8 f hf).2.2, (h8 f hf).2⟩⟩
  · have := hb.set 0 (.slice (some ⟨b, 0, none⟩) n cap)
    simpa using this
  · rw [hlen, stcs_take]
    obtain ⟨o1, o2⟩ := hown
    refine ⟨by rw [List.length_take, stcs_len]; omega, ?_⟩
    rcases o2 with ⟨e, _⟩ | ⟨g', cap', cur, e, hb', hc, k1, k2, k3, k4⟩
    · cases e
    · cases e
      refine .inr ⟨b, cap, cur, rfl, hb', ?_, by omega, k2, k3, ?_⟩
      · rw [heap_setCell_other _ ⟨g, 0, none⟩ b _ (by simp; omega)]; exact hc
      · rw [← k4, List.take_take, Nat.min_eq_left (by omega)]
set_option maxRecDepth 100000 in
theorem cutSt (g n cap k : Nat) (hk : k ≤ cap) (wx : World) : (Instr.slice 58 (.slice (some ⟨g, 0, none⟩) n cap) none (some (.int .i64 (k : Int))) none).run Tryz.prog wx = .ok (.slice (some ⟨g, 0, none⟩) k cap) wx := by
  rw [run_slice_h (P := Tryz.prog) (w := wx) 58 (some ⟨g, 0, none⟩) n cap Tryz.underlying58 .i64 (k : Int) (by omega) (by omega)]
  rw [show (sizeOf (Tryz.prog.elem 58)).run Tryz.prog wx = .ok 5 wx from by kernel_rfl]
  simp [Result.andThen, sliced, Addr.add]
set_option maxRecDepth 100000 in
set_option maxHeartbeats 4000000 in
theorem stPop_any (K : List P4) (F : List Fr3) (w0 : World) (bm bk g : Nat) (w : World) (l : List SE) (h : HSt K F w0 bm bk g w l) (h0 : 0 < l.length) (hl : l.length ≤ 1000000) :
    Calls Tryz.prog 180 #[.pointer (some ⟨g, 0, none⟩)] w fun e w' => e = .returned (.iface 68 (stv (HeapM.at' seD l (l.length - 1)))) ∧ HSt K F w0 bm bk g w' (l.take (l.length - 1)) := by
  obtain ⟨v, b1, hown, _⟩ := h.1
  obtain ⟨b, cap, rfl, hbb, hcap⟩ := own_open (n := 0) hown h0
  obtain ⟨m, hm⟩ : ∃ m, l.length - 1 = m := ⟨_, rfl⟩
  have hml : m < l.length := by omega
  obtain ⟨a0, a1, a2, a3, a4⟩ := own_elt hown hml
  rw [hm]
  obtain ⟨⟨n1, p1, p2, p3, p4⟩, hs1⟩ : ∃ s, HeapM.at' seD l m = s := ⟨_, rfl⟩
  rw [hs1] at a0 a1 a2 a3 a4 ⊢
  simp only at a0 a1 a2 a3 a4
  have hlm : (l.length : Int) - 1 = (m : Int) := by omega
  have hwr : IntKind.i64.wrap ((l.length : Int) - 1) = (m : Int) := by rw [IntKind.wrap_i64]; omega
  have hcut := cutSt b l.length cap m (by omega)
  have hb1 := below_al (Below.refl _ w) (.cells #[.string (bs n1), .int .i64 p1, .int .i64 p2, .int .i64 p3, .int .i64 p4] 68)
  have HH := hide ((h.below hb1).popped (b1.below hb1) (n := m) (by omega))
  have c0 := b1.at 0
  simp at c0
  have c1 := (b1.below hb1).at 0
  simp at c1
  have f1 := (b1.below hb1).f 0
  have hne : ¬ w.heap.size = g := by have := b1.lt; omega
  have hne2 : ¬ g = w.heap.size := by omega
  have hmi : (m : Int) < (l.length : Int) := by omega
  clear h b1 hown hs1 hb1 hm
  go_enter Tryz.func180, Tryz.ntmps180
  go_wp2
  go_ret
  exact ⟨rfl, unhide HH⟩
end Go.Proofs.YtbgamlegiikggaaGreat
