/-
  The closure that tells which of two leaves comes ahead, and the function that makes it; walks over the dump.
-/
import Derived.Test.YtbgamlegiikggaaGreatStdM
import Derived.Test.YtbgamlegiikggaaGreatPackB
namespace Go.Proofs.YtbgamlegiikggaaGreat
open Go.RowKit Go.Maps
set_option linter.unusedVariables false

theorem Blk.gby1 {w w' : World} {g k : Nat} {arr : Array Value} {t : TypeId} (h : Blk w k arr t) (hg : w.grownBy w' (some g)) (hn : k ≠ g) : Blk w' k arr t := (hg.block k h.lt (fun e => hn (by simpa using e))).trans h
/-- the closure, over the variable at block bk -/
abbrev cloV (bk : Nat) : Value := .func (.func 63) #[] #[.pointer (some ⟨bk, 0, none⟩)]

set_option maxRecDepth 100000 in
set_option maxHeartbeats 4000000 in
theorem leastFn_any (K : List P4) (hK : K.length ≤ 1000000000) (KW : ∀ p ∈ K, Wf4 p.1 p.2.1 p.2.2.1 p.2.2.2) (x y : SE) (hx : x.2 ∈ K) (hy : y.2 ∈ K) (bm bk : Nat) (w : World) (hc : Blk w bk #[.map (some bm)] 115) (hm : HoldsK K bm w) (hne : bk ≠ bm) :
    Calls Tryz.prog 63 #[stv x, stv y, .pointer (some ⟨bk, 0, none⟩)] w fun e w' => e = .returned (.bool (aheadS x y)) ∧ HoldsK K bm w' ∧ w.grownBy w' (some bm) := by
  obtain ⟨n1, a, b, c, d⟩ := x
  obtain ⟨n2, e, f, g, h⟩ := y
  have C1 := hide (fun wx hm => lessK_any K hK a b c d e f g h (KW _ hx) (KW _ hy) hx hy bm wx hm)
  have C2 := hide (fun wx hm => lessK_any K hK e f g h a b c d (KW _ hy) (KW _ hx) hy hx bm wx hm)
  have HA := hide (show aheadS (n1, a, b, c, d) (n2, e, f, g, h) = (lessR a b c d e f g h || (!lessR e f g h a b c d && Op.bytesLess n1 n2)) from rfl)
  obtain ⟨l1, hl1⟩ : ∃ z, lessR a b c d e f g h = z := ⟨_, rfl⟩
  obtain ⟨l2, hl2⟩ : ∃ b', lessR e f g h a b c d = b' := ⟨_, rfl⟩
  obtain ⟨o, ho⟩ : ∃ b', aheadS (n1, a, b, c, d) (n2, e, f, g, h) = b' := ⟨_, rfl⟩
  rw [hl1] at C1 HA
  rw [hl2] at C2 HA
  rw [ho] at HA ⊢
  have X0 := hide ((blk_new w #[.string (bs n1), .int .i64 a, .int .i64 b, .int .i64 c, .int .i64 d] 68).al (.cells #[.string (bs n2), .int .i64 e, .int .i64 f, .int .i64 g, .int .i64 h] 68))
  have Y0 := hide (show Blk ((w.alloc (.cells #[.string (bs n1), .int .i64 a, .int .i64 b, .int .i64 c, .int .i64 d] 68)).alloc (.cells #[.string (bs n2), .int .i64 e, .int .i64 f, .int .i64 g, .int .i64 h] 68)) (w.heap.size + 1) #[.string (bs n2), .int .i64 e, .int .i64 f, .int .i64 g, .int .i64 h] 68 from by have := blk_new (w.alloc (.cells #[.string (bs n1), .int .i64 a, .int .i64 b, .int .i64 c, .int .i64 d] 68)) #[.string (bs n2), .int .i64 e, .int .i64 f, .int .i64 g, .int .i64 h] 68; rw [al_size] at this; exact this)
  have M0 := hide ((hc.al (.cells #[.string (bs n1), .int .i64 a, .int .i64 b, .int .i64 c, .int .i64 d] 68)).al (.cells #[.string (bs n2), .int .i64 e, .int .i64 f, .int .i64 g, .int .i64 h] 68))
  have hb0 := below_al (below_al (Below.refl _ w) (.cells #[.string (bs n1), .int .i64 a, .int .i64 b, .int .i64 c, .int .i64 d] 68)) (.cells #[.string (bs n2), .int .i64 e, .int .i64 f, .int .i64 g, .int .i64 h] 68)
  have H0 := hide (hm.below hb0)
  have G0 := hide (grownBy_below (grownBy_refl w (some bm)) hb0)
  have hlm : bm < w.heap.size := hm.lt
  clear hl1 hl2 ho hc hm hb0 hx hy
  have c0 := (unhide M0).at 0
  have x1 := (unhide X0).at 1; have x2 := (unhide X0).at 2; have x3 := (unhide X0).at 3; have x4 := (unhide X0).at 4
  have y1 := (unhide Y0).at 1; have y2 := (unhide Y0).at 2; have y3 := (unhide Y0).at 3; have y4 := (unhide Y0).at 4
  simp at c0 x1 x2 x3 x4 y1 y2 y3 y4
  go_enter Tryz.func63, Tryz.ntmps63
  go_wp2_with fail
  refine (unhide C1 _ (unhide H0)).mono ?_
  rintro e1 w1 ⟨rfl, hh, hg⟩
  have H1 := hide hh
  have G1 := hide (grownBy_trans (unhide G0) hg)
  have X1 := hide ((unhide X0).gby1 hg (by omega))
  have Y1 := hide ((unhide Y0).gby1 hg (by omega))
  have M1 := hide ((unhide M0).gby1 hg hne)
  clear hh hg H0 G0 X0 Y0 M0 C1 c0 x1 x2 x3 x4 y1 y2 y3 y4
  cases l1
  case true =>
    go_wp2
    go_ret
    exact ⟨ret_bool (by rw [unhide HA]; rfl), unhide H1, unhide G1⟩
  have c0 := (unhide M1).at 0
  have x1 := (unhide X1).at 1; have x2 := (unhide X1).at 2; have x3 := (unhide X1).at 3; have x4 := (unhide X1).at 4
  have y1 := (unhide Y1).at 1; have y2 := (unhide Y1).at 2; have y3 := (unhide Y1).at 3; have y4 := (unhide Y1).at 4
  simp at c0 x1 x2 x3 x4 y1 y2 y3 y4
  go_wp2_with fail
  refine (unhide C2 _ (unhide H1)).mono ?_
  rintro e2 w2 ⟨rfl, hh, hg⟩
  have H2 := hide hh
  have G2 := hide (grownBy_trans (unhide G1) hg)
  have X2 := hide ((unhide X1).gby1 hg (by omega))
  have Y2 := hide ((unhide Y1).gby1 hg (by omega))
  clear hh hg H1 G1 X1 Y1 M1 C2 c0 x1 x2 x3 x4 y1 y2 y3 y4
  cases l2
  case true =>
    go_wp2
    go_ret
    exact ⟨ret_bool (by rw [unhide HA]; rfl), unhide H2, unhide G2⟩
  have x0 := (unhide X2).at 0
  have y0 := (unhide Y2).at 0
  simp at x0 y0
  obtain ⟨bl, hbl⟩ : ∃ z, Op.bytesLess (bs n1).toList (bs n2).toList = z := ⟨_, rfl⟩
  have HBL := hide (show Op.bytesLess n1 n2 = bl by rw [← hbl]; simp [bs])
  go_wp2
  go_ret
  exact ⟨ret_bool (by rw [unhide HA, unhide HBL]; rfl), unhide H2, unhide G2⟩
end Go.Proofs.YtbgamlegiikggaaGreat
