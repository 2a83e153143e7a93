/-
  The laws' own toIntS, eqIntS and markIntS: rows of whole numbers made anew, compared where they hold the same, marked; a row of whole numbers that a law is handed; walks over the dump.
-/
import Derived.Test.YtdkgmfogeabaoaaGreatIntS
import Derived.Test.YtdkgmfogeabaoaaGreatPackC
import Derived.Laws.MakeOwn
import Derived.Deep.RegionHeld3
import Derived.ChangeSlices
namespace Go.Proofs.YtdkgmfogeabaoaaGreat
open Go.RowKit Go.ChangeShapes
set_option linter.unusedVariables false

/-- block g is a row of n numbers, of which the first k are those of l -/
def IBlk (w : World) (t : TypeId) (g n k : Nat) (l : List Int) : Prop :=
  ∃ arr : Array Value, w.heap[g]? = some (.cells arr t (0, 0)) ∧ arr.size = n ∧ ∀ i (h : i < l.length), i < k → arr[i]? = some (.int .i64 l[i])
theorem IBlk.lt {w : World} {t : TypeId} {g n k : Nat} {l : List Int} (h : IBlk w t g n k l) : g < w.heap.size := let ⟨_, h, _⟩ := h; lt_of_block h
theorem IBlk.below {w w' : World} {t : TypeId} {g n k : Nat} {l : List Int} (h : IBlk w t g n k l) (hb : Below w.heap.size w w') : IBlk w' t g n k l := by
  have hlt := h.lt
  obtain ⟨arr, h1, h2⟩ := h
  exact ⟨arr, (hb.block g hlt).trans h1, h2⟩
theorem IBlk.cell {w : World} {t : TypeId} {g n k : Nat} {l : List Int} (h : IBlk w t g n k l) {j : Nat} (hj : j < n) : ∃ v, w.cell? ⟨g, j, none⟩ = some v := by
  obtain ⟨arr, h1, h2, _⟩ := h
  exact ⟨arr[j]'(by omega), by simp [World.cell?, h1, Array.getElem?_eq_getElem (show j < arr.size by omega)]⟩
theorem IBlk.frozen {w : World} {t : TypeId} {g n k : Nat} {l : List Int} (h : IBlk w t g n k l) (j : Nat) : w.frozen? ⟨g, j, none⟩ = false := by
  obtain ⟨arr, h1, h2, _⟩ := h
  simp [World.frozen?, h1]
theorem IBlk.row {w : World} {t : TypeId} {g n : Nat} {l : List Int} (h : IBlk w t g n n l) (hl : n = l.length) : IRow w (some ⟨g, 0, none⟩) n l := by
  obtain ⟨arr, h1, h2, h3⟩ := h
  refine ⟨hl, .inr ⟨g, 0, rfl, fun i hi => ?_⟩⟩
  have a := h3 i hi (by omega)
  simp only [Nat.zero_add]
  simp [World.cell?, h1, a]
theorem iblk_made (w : World) (t : TypeId) (z : Array Value) (n : Nat) (l : List Int) : IBlk (w.alloc (.cells (madeCells z n) t)) t w.heap.size n 0 l :=
  ⟨madeCells z n, by show (w.heap.push _)[w.heap.size]? = _; simp, size_madeCells _ _, fun i _ h => absurd h (by omega)⟩
theorem IBlk.step {w : World} {t : TypeId} {g n k : Nat} {l : List Int} (h : IBlk w t g n k l) (hk : k < n) (hl : k < l.length) : IBlk (w.setCell ⟨g, k, none⟩ (.int .i64 l[k])) t g n (k + 1) l := by
  obtain ⟨arr, h1, h2, h3⟩ := h
  refine ⟨_, heap_setCell_same w g k _ _ (.int .i64 l[k]) h1, by simp [h2], fun i hi hik => ?_⟩
  by_cases e : i = k
  · subst e
    simp [Array.getElem?_setIfInBounds, h2]
    omega
  · have a := h3 i hi (by omega)
    rw [← a]; simp only [Array.getElem?_setIfInBounds]; rw [if_neg (by omega)]
/-- one cell turned: the row's block still is one of n numbers -/
theorem IBlk.put {w : World} {t : TypeId} {g n k : Nat} {l : List Int} (h : IBlk w t g n k l) (j : Nat) (v : Value) : IBlk (w.setCell ⟨g, j, none⟩ v) t g n 0 l := by
  obtain ⟨arr, h1, h2, h3⟩ := h
  exact ⟨_, heap_setCell_same w g j _ _ v h1, by simp [h2], fun i hi hik => absurd hik (by omega)⟩
theorem IBlk.none {w : World} {t : TypeId} {g n k : Nat} {l : List Int} (h : IBlk w t g n k l) : IBlk w t g n 0 l := by
  obtain ⟨arr, h1, h2, h3⟩ := h
  exact ⟨arr, h1, h2, fun i hi hik => absurd hik (by omega)⟩
theorem IBlk.mks {S : Nat → Prop} {w w' : World} {t : TypeId} {g n k : Nat} {l : List Int} (h : IBlk w t g n k l) (hm : Mks S w w') (hg : ¬ S g) : IBlk w' t g n k l := by
  have hlt := h.lt
  obtain ⟨arr, h1, h2⟩ := h
  exact ⟨arr, (hm.block g hlt hg).trans h1, h2⟩

theorem IBlk.mkd {B E : Nat} {w w' : World} {t : TypeId} {g n k : Nat} {l : List Int} (h : IBlk w t g n k l) (hm : Mkd B E w w') (hg : g < B ∨ E ≤ g) : IBlk w' t g n k l := by
  have hlt := h.lt
  obtain ⟨arr, h1, h2⟩ := h
  exact ⟨arr, (hm.block g hlt hg).trans h1, h2⟩
theorem IBlk.al {w : World} {t : TypeId} {g n k : Nat} {l : List Int} (h : IBlk w t g n k l) (o : Obj) : IBlk (w.alloc o) t g n k l := h.below (below_al (Below.refl _ _) o)

theorem make_ints (n : Nat) (hn : n ≤ 1048576) (w : World) :
    (Instr.makeSlice 28 (.int .i64 (n : Int)) (.int .i64 (n : Int))).run Tryz.prog w = .ok (.slice (some ⟨w.heap.size, 0, none⟩) n n) (w.alloc (.cells (madeCells (Value.int .i64 0).cells n) 3)) := by
  obtain ⟨i, hi, hz⟩ := Option.map_eq_some_iff.1 Tryz.infoI
  simp only [Prod.mk.injEq] at hz
  obtain ⟨hz, hs, hb⟩ := hz
  have hr := run_make (P := Tryz.prog) w 28 3 i _ Tryz.underlying28 hi hz .i64 .i64 n n (by omega) (Int.le_refl _) (by rw [hb]; omega) (by omega)
  simp only [Int.toNat_natCast, hs, Nat.mul_one] at hr
  exact hr

set_option maxRecDepth 100000 in
set_option maxHeartbeats 1000000 in
theorem toIntS_any (ao : Option Addr) (len cap : Nat) (l : List Int) (w : World) (h : IRow w ao len l) (hl : len ≤ 1048576) :
    Calls Tryz.prog 9 #[.slice ao len cap] w fun e w' => e = .returned (.slice (some ⟨w.heap.size, 0, none⟩) len len) ∧ IBlk w' 3 w.heap.size len len l ∧ Below w.heap.size w w' := by
  have HR := hide h
  have HL := hide h.1
  have hmk := make_ints len hl w
  obtain ⟨zs, hzs⟩ : ∃ z, z = (Value.int .i64 0).cells := ⟨_, rfl⟩
  rw [← hzs] at hmk
  clear h hzs
  go_enter Tryz.func9, Tryz.ntmps9
  go_wp2
  clear hmk
  go_loopw [4] (fun i wr => ∃ k : Nat, k ≤ len ∧ i = .int .i64 k ∧ Hid (IBlk wr 3 w.heap.size len k l) ∧ Hid (Below w.heap.size w wr)) (fun i _ => len - (intOf i).toNat)
  case atStart => exact ⟨0, Nat.zero_le _, rfl, hide (iblk_made w _ _ _ _), hide (below_al (Below.refl _ _) _)⟩
  case round =>
    obtain ⟨k, hk, rfl, HQ, HB⟩ := hrel
    by_cases hlt : k < len
    · obtain ⟨b, off, rfl, hq⟩ := ((unhide HR).below (unhide HB)).at hlt
      have hkl : k < l.length := by have := unhide HL; omega
      have c0 := hq hkl
      have HST := hide ((unhide HQ).step hlt hkl)
      obtain ⟨q, hs⟩ : ∃ q, l[k] = q := ⟨_, rfl⟩
      rw [hs] at c0 HST
      clear hq hs hkl
      obtain ⟨v0, d0⟩ := (unhide HQ).cell (j := k) (by omega)
      have f0 := (unhide HQ).frozen k
      go_wp2
      go_roundw
      case rel => exact ⟨k + 1, by omega, by go_num, HST, hide (below_sc (unhide HB) _ _ _ (by omega))⟩
      case measure => simp [intOf]; omega
    · have hkk : k = len := by omega
      subst hkk
      go_wp2
      go_ret
      exact ⟨rfl, unhide HQ, unhide HB⟩

/-- the same number stands at two places -/
def ITwo (w0 : World) (b p c r : Nat) (q : Int) (w : World) : Prop := w.cell? ⟨b, p, none⟩ = some (.int .i64 q) ∧ w.cell? ⟨c, r, none⟩ = some (.int .i64 q) ∧ Below w0.heap.size w0 w
theorem ITwo.call {w0 w w' : World} {b p c r : Nat} {q : Int} (h : ITwo w0 b p c r q w) (hb : Below w.heap.size w w') : ITwo w0 b p c r q w' := ⟨(hb.cell (cell_lt h.1)).trans h.1, (hb.cell (cell_lt h.2.1)).trans h.2.1, below_on h.2.2 hb⟩
theorem ITwo.drew {w0 w : World} {b p c r : Nat} {q : Int} (h : ITwo w0 b p c r q w) : ITwo w0 b p c r q w.drew := h.call (Below.refl _ _).drew
theorem ITwo.read (w0 : World) (b p c r : Nat) (q : Int) : ∀ wx, ITwo w0 b p c r q wx → wx.cell? ⟨b, p, none⟩ = some (.int .i64 q) ∧ wx.cell? ⟨c, r, none⟩ = some (.int .i64 q) := fun wx h => ⟨h.1, h.2.1⟩

set_option maxRecDepth 100000 in
set_option maxHeartbeats 2000000 in
theorem eqIntS_same (ao bo : Option Addr) (len cap ccap : Nat) (l : List Int) (w : World) (h : IRow w ao len l) (h' : IRow w bo len l) (hl : len ≤ 1048576) :
    Calls Tryz.prog 13 #[.slice ao len cap, .slice bo len ccap] w fun e w' => e = .returned (.bool true) ∧ Below w.heap.size w w' := by
  have HR := hide h
  have HR' := hide h'
  have HL := hide h.1
  clear h h'
  go_enter Tryz.func13, Tryz.ntmps13
  go_wp2
  go_loopw [5] (fun i wr => ∃ k : Nat, k ≤ len ∧ i = .int .i64 k ∧ Hid (Below w.heap.size w wr)) (fun i _ => len - (intOf i).toNat)
  case atStart => exact ⟨0, Nat.zero_le _, rfl, hide (Below.refl _ _)⟩
  case round =>
    obtain ⟨k, hk, rfl, HB⟩ := hrel
    by_cases hlt : k < len
    · obtain ⟨b, off, rfl, hq⟩ := ((unhide HR).below (unhide HB)).at hlt
      obtain ⟨c, coff, rfl, hq'⟩ := ((unhide HR').below (unhide HB)).at hlt
      have hkl : k < l.length := by have := unhide HL; omega
      have A0 := hide (show ITwo w b (off + k) c (coff + k) l[k] wr from ⟨hq hkl, hq' hkl, unhide HB⟩)
      obtain ⟨q, hs⟩ : ∃ q, l[k] = q := ⟨_, rfl⟩
      rw [hs] at A0
      have R := ITwo.read w b (off + k) c (coff + k) q
      have k0 : (0 : Int) ≤ k := by omega
      have k1 : (k : Int) < len := by omega
      clear hq hq' hs hkl
      go_wp2_with fail
      go_region_held3 (fun wx => ITwo w b (off + k) c (coff + k) q wx)
        (first | (with_reducible assumption) | exact (unhide A0).drew | exact ITwo.call (by assumption) (by assumption))
        (fail)
      all_goals
        have HB2 := hide (unhide A0).drew.2.2
        clear R A0
        go_wp2
        go_roundw
        case rel => exact ⟨k + 1, by omega, by go_num, HB2⟩
        case measure => simp [intOf]; omega
    · go_wp2
      go_ret
      exact ⟨rfl, unhide HB⟩

set_option maxRecDepth 100000 in
set_option maxHeartbeats 1000000 in
theorem markIntS_any (g n c K : Nat) (l : List Int) (w : World) (h : IBlk w 3 g n n l) (hn : n ≤ 1048576) (hK : K ≤ 4611686018427387904) :
    Calls Tryz.prog 15 #[.slice (some ⟨g, 0, none⟩) n c, .int .i64 (K : Int)] w fun e w' => e = .returned (.int .i64 ((K : Int) + (n : Int))) ∧ Mks (fun k => k = g) w w' := by
  have HI := hide h.none
  clear h
  go_enter Tryz.func15, Tryz.ntmps15
  go_wp2
  go_loopw [1, 5] (fun s i wr => ∃ (j : Nat) (k : Int), j ≤ n ∧ i = .int .i64 j ∧ s = .int .i64 k ∧ Hid (k = (K : Int) + (j : Int)) ∧ Hid (IBlk wr 3 g n 0 l) ∧ Hid (Mks (fun k => k = g) w wr)) (fun _ i _ => n - (intOf i).toNat)
  case atStart => exact ⟨0, K, Nat.zero_le _, rfl, rfl, hide (by simp), HI, hide (Mks.refl _ _)⟩
  case round =>
    obtain ⟨j, k, hj, rfl, rfl, hk, HV, HM⟩ := hrel
    have hkk := unhide hk
    by_cases hlt : j < n
    · obtain ⟨v0, d0⟩ := (unhide HV).cell (j := j) (by omega)
      have f0 := (unhide HV).frozen j
      go_wp2
      go_roundw
      case rel => exact ⟨j + 1, k + 1, by omega, by go_num, by go_num, hide (by omega), hide ((unhide HV).put _ _), hide ((unhide HM).sc _ _ _ rfl)⟩
      case measure => simp [intOf]; omega
    · obtain rfl : j = n := by omega
      rw [hkk]
      go_wp2
      go_ret
      exact ⟨rfl, unhide HM⟩

theorem open_introw {H : Type} {enc : TypeId × Value → H} {W : World} {base : Nat} {held : Bool} {ao : Option Addr} {len cap : Nat} {d : DataW H} {p : List MemPlace}
    (h : DataW.Trod enc Tryz.prog W base (fun _ => true) held 28 (.slice ao len cap) d p) :
    ∃ l : List Int, IRow W ao len l ∧ len ≤ 9223372036854775807 := by
  obtain ⟨fuel, hf⟩ := h
  rcases open_ints Tryz.underlying28 Tryz.underlying3 (by kernel_rfl) hf with ⟨hcs, _⟩ | ⟨a, l, c, zs, hcs, _, hl, hm, hz, _, hcell, hwz⟩
  · simp [Value.cells] at hcs
    obtain ⟨rfl, rfl, rfl⟩ := hcs
    exact ⟨[], ⟨rfl, .inl rfl⟩, by omega⟩
  · simp [Value.cells] at hcs
    obtain ⟨rfl, rfl, rfl⟩ := hcs
    simp only [if_true] at hz
    have hmx : maxLen = 9223372036854775807 := rfl
    refine ⟨zs.take len, ⟨by simp; omega, ?_⟩, by omega⟩
    by_cases h0 : len = 0
    · exact .inl h0
    · right
      obtain ⟨b, off, spot⟩ := a
      have hc0 := hcell 0 (by omega)
      have hspot : spot = none := by simpa [Addr.add] using World.cell?_spot hc0
      subst hspot
      refine ⟨b, off, rfl, fun i hi => ?_⟩
      have hi' : i < len ∧ i < zs.length := by simp only [List.length_take] at hi; omega
      have := hcell i hi'.2
      rw [Lib.add_plain] at this
      rw [this]
      simp [List.getElem?_eq_getElem hi'.2]
end Go.Proofs.YtdkgmfogeabaoaaGreat
