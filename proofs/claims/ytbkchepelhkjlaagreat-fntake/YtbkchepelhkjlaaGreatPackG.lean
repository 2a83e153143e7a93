/-
  Several texts of this claim in one: TakP, TkaP, CopyC, CpC (pack.py put them together); each says in its own remark what is proved.
-/
import Derived.Test.YtbkchepelhkjlaaGreatTakC
import Derived.Test.YtbkchepelhkjlaaGreatPackC
import Derived.Test.YtbkchepelhkjlaaGreatPackE
import Derived.Shelf.Abstract
import Derived.OneCell
import Derived.Deep.CutBlock
import Derived.Deep.CutRange
import Derived.Test.YtbkchepelhkjlaaGreatStAll
/-
 The program's generic list from which some are taken, of applications: takingFrom, take, takeAll (mktak.py wrote this); walks over the dump.
-/
namespace Go.Proofs.YtbkchepelhkjlaaGreat
open Go.RowKit
set_option linter.unusedVariables false
theorem pcells_append : ∀ a b : List AV, pcells (a ++ b) = pcells a ++ pcells b
 | [], b => rfl
 | q :: t, b => by rw [List.cons_append, pcells, pcells, pcells_append t b, List.append_assoc]
theorem pcells_take (l : List AV) (i : Nat) (h : i ≤ l.length) : (pcells l).take (i * 3) = pcells (l.take i) := by
 have e : pcells l = pcells (l.take i) ++ pcells (l.drop i) := by rw [← pcells_append, List.take_append_drop]
 have hl : (pcells (l.take i)).length = i * 3 := by rw [pcells_len, List.length_take, Nat.min_eq_left h]
 rw [e, ← hl, List.take_left]
theorem pcells_drop (l : List AV) (i : Nat) (h : i ≤ l.length) : (pcells l).drop (i * 3) = pcells (l.drop i) := by
 have e : pcells l = pcells (l.take i) ++ pcells (l.drop i) := by rw [← pcells_append, List.take_append_drop]
 have hl : (pcells (l.take i)).length = i * 3 := by rw [pcells_len, List.length_take, Nat.min_eq_left h]
 rw [e, ← hl, List.drop_left]
/-- one is taken out: what is behind it is moved up -/
theorem psplice (l : List AV) (R : List Value) (i : Nat) (h : i < l.length) : ∃ R', splice (pcells l ++ R) (i * 3) (pcells (l.drop (i + 1))) = pcells (l.eraseIdx i) ++ R' ∧ (pcells (l.eraseIdx i) ++ R').length = (pcells l ++ R).length := by
 have hl := pcells_len l
 have hd := pcells_len (l.drop (i + 1))
 rw [List.length_drop] at hd
 refine ⟨(pcells l ++ R).drop (i * 3 + (pcells (l.drop (i + 1))).length), ?_, ?_⟩
 ·rw [splice, List.take_append_of_le_length (by omega), pcells_take l i (by omega), ← List.append_assoc, ← pcells_append, List.eraseIdx_eq_take_drop_succ]
 ·rw [List.length_append, List.length_drop, pcells_len, List.length_append, List.length_eraseIdx_of_lt h]
  have : (l.length - (i + 1)) * 3 = l.length * 3 - (i + 1) * 3 := Nat.sub_mul _ _ _
  omega
theorem Lay.rowP {w : World} {g M : Nat} {l : List AV} (h : Lay w 41 g M (pcells l)) : AVRow w (some ⟨g, 0, none⟩) l.length l := by
 refine ⟨rfl, .inr ⟨g, 0, rfl, fun i hi => ?_⟩⟩
 obtain ⟨a, b, c⟩ := pcells_at l i hi
 unfold AVAt
 simp only [Nat.zero_add]
 exact ⟨h.cell a, h.cell b, h.cell c⟩
/-- block g + 1 is a list from which some are taken: what stays stands in block g, what is gone in memory of its own behind both -/
def TakP (w : World) (g M : Nat) (l gl : List AV) : Prop := ∃ v, Blk w (g + 1) #[.slice (some ⟨g, 0, none⟩) l.length l.length, v] 161 ∧ Lay w 41 g M (pcells l) ∧ POwn (g + 2) w v gl
theorem TakP.below {w w' : World} {g M : Nat} {l gl : List AV} (h : TakP w g M l gl) (hb : Below w.heap.size w w') : TakP w' g M l gl := let ⟨v, a, b, c⟩ := h; ⟨v, a.below hb, b.below hb, pown_below c hb⟩

set_option maxRecDepth 100000 in
set_option maxHeartbeats 2000000 in
theorem takingFromP_any (ao : Option Addr) (n c : Nat) (l : List AV) (w : World) (h : AVRow w ao n l) (hn : n ≤ 1048576) :
  Calls Tryz.prog 141 #[.slice ao n c] w fun e w' => e = .returned (.pointer (some ⟨w.heap.size + 1, 0, none⟩)) ∧ TakP w' w.heap.size (n * 3) l [] ∧ w'.heap.size = w.heap.size + 2 ∧ Below w.heap.size w w' := by
 obtain ⟨i0, hi, hz0, hz1, hz2⟩ := info_parts Tryz.infoApp
 have hsz : (Tryz.prog.info? 41).map (·.size) = some 3 := by rw [hi]; exact congrArg some hz1
 have hmk := make_appls n hn w
 obtain ⟨A, hA⟩ : ∃ A : Array Value, madeCells (applv 0 [] none 0 0).cells (n * 3) = A := ⟨_, rfl⟩
 have hAs : A.size = n * 3 := by rw [← hA]; simp [madeCells]
 rw [hA] at hmk
 have hb0 := below_al (Below.refl _ w) (.cells A 41)
 have HB0 := hide hb0
 have hg0 : (w.alloc (.cells A 41)).heap[w.heap.size]? = some (.cells A.toList.toArray 41 (0, 0)) := by
  show (w.heap.push _)[w.heap.size]? = _
  simp
 have hcl : (pcells l).length = n * 3 := by rw [pcells_len, h.1]
 have HPS := hide (show n ≠ 0 → ∃ ad, ao = some ad ∧ ∀ j v, (pcells l)[j]? = some v → (w.alloc (.cells A 41)).cell? (ad.add j) = some v from fun hz => by
  rcases h.2 with e | ⟨b, off, e, _⟩
  ·exact absurd e hz
  ·subst e
   refine ⟨_, rfl, fun j v hv => ?_⟩
   rw [Lib.add_plain]
   exact pcells_row (h.below hb0) j v hv)
 have HLN := hide h.1
 have HG0 := hide hg0
 have HONE := hide (pcells_one l)
 have HCL := hide hcl
 have HAS := hide hAs
 clear h hA hb0 hg0 hcl hAs
 go_enter Tryz.func141, Tryz.ntmps141
 go_upto_region 2 with fail
 go_wp2_with (refine wpList_copy_many rfl (.tmp 7) (.tmp 8) 25 25 rfl 41 3 Tryz.underlying25 hsz _ _ _ _ _ _ rfl rfl w.heap.size 0 A.toList 41 (unhide HG0) (pcells l) n (Nat.min_self n).symm (unhide HCL) (fun hz => ⟨rfl, unhide HPS hz⟩) (by have := unhide HCL; have := unhide HAS; simp; omega) (unhide HONE) ?_)
 intro w1 HG1 HM1 hw1
 have hs1 : w1.heap.size = w.heap.size + 1 := by simpa using hw1
 have HL1 := hide (show Lay w1 41 w.heap.size (n * 3) (pcells l) from ⟨[], by
  have := unhide HG1
  rw [splice, List.take_zero, List.nil_append, Nat.zero_add] at this
  rw [List.drop_of_length_le (by have := unhide HCL; have := unhide HAS; simp; omega)] at this
  exact this, by have := unhide HCL; simpa using this⟩)
 have HB1 := hide (show Below w.heap.size w w1 from (unhide HB0).trans ((unhide HM1).below (fun k hk => by omega) (by rw [al_size]; omega)))
 clear HG1 HM1 hw1 HB0 HG0 HPS hmk
 go_wp2
 go_ret
 refine ⟨rfl, ⟨_, ?_, (unhide HL1).below (below_al (Below.refl _ w1) _), pown_nil _ _⟩, by rw [al_size, hs1], below_al (unhide HB1) _⟩
 have := blk_new w1 #[.slice (some ⟨w.heap.size, 0, none⟩) l.length l.length, .slice none 0 0] 161
 rw [hs1] at this
 rw [← unhide HLN] at this ⊢
 exact this

theorem pown_mks {B g : Nat} {w w' : World} {v : Value} {l : List AV} (hm : Mks (fun k => k = g) w w') (h : POwn B w v l) (hg : g < B) : POwn B w' v l :=
 World.ownsRow.kept h hm.grown (.inr (fun e => by have := (World.ownsRow.lt h g e).1; omega))

set_option maxRecDepth 100000 in
set_option maxHeartbeats 4000000 in
theorem takeP_any (g M a : Nat) (l gl : List AV) (w : World) (h : TakP w g M l gl) (ha : a < l.length) (hl : l.length ≤ 1048576) (hgl : gl.length ≤ 1048576) :
  Calls Tryz.prog 169 #[.pointer (some ⟨g + 1, 0, none⟩), .int .i64 (a : Int)] w fun e w' => e = .returned (avv l[a]) ∧ TakP w' g M (l.eraseIdx a) (gl ++ [l[a]]) ∧ Below g w w' := by
 obtain ⟨i0, hi, hz0, hz1, hz2⟩ := info_parts Tryz.infoApp
 have hsz : (Tryz.prog.info? 41).map (·.size) = some 3 := by rw [hi]; exact congrArg some hz1
 obtain ⟨v, hbk, hly, how⟩ := h
 obtain ⟨n, hn⟩ : ∃ n, l.length = n := ⟨_, rfl⟩
 have c0 := hly.cell (pcells_at l a ha).1
 have c1 := hly.cell (pcells_at l a ha).2.1
 have c2 := hly.cell (pcells_at l a ha).2.2
 obtain ⟨vo, vc, rfl, hvr, hvc, hvg⟩ := pown_row how
 obtain ⟨m, hm⟩ : ∃ m, gl.length = m := ⟨_, rfl⟩
 obtain ⟨⟨id, nd, sa, sl, sc⟩, hq⟩ : ∃ q, l[a] = q := ⟨_, rfl⟩
 have HQ := hide hq
 have HM := hide hm
 have HN := hide hn
 rw [hq] at c0 c1 c2 ⊢
 rw [hm] at hbk how hgl hvc
 rw [hn] at hbk hl ha
 simp only at c0 c1 c2
 have hb0 := below_al (below_al (Below.refl _ w) (.cells #[.int .i64 0, .string { data := #[] }, .slice none 0 0] 41)) (.cells #[.int .i64 id, .string (bs nd), .slice sa sl sc] 41)
 have HB0 := hide hb0
 have Z0 := hide ((blk_new w #[.int .i64 0, .string { data := #[] }, .slice none 0 0] 41).al (.cells #[.int .i64 id, .string (bs nd), .slice sa sl sc] 41))
 have Z1 := hide (show Blk _ (w.heap.size + 1) #[.int .i64 id, .string (bs nd), .slice sa sl sc] 41 by have := blk_new (w.alloc (.cells #[.int .i64 0, .string { data := #[] }, .slice none 0 0] 41)) #[.int .i64 id, .string (bs nd), .slice sa sl sc] 41; rwa [al_size] at this)
 have d0 := hbk.at 0
 have d1 := hbk.at 1
 simp at d0 d1
 have K0 := hide (hbk.below hb0)
 have L0 := hide (hly.below hb0)
 have O0 := hide (pown_below how hb0)
 have hgs : g + 1 < w.heap.size := hbk.lt
 have HVO := hide (fun k hk => World.ownsRow.lt how k hk)
 have hgs0 : g < w.heap.size := by omega
 have a0 : (0 : Int) ≤ a := by omega
 have a1 : (a : Int) < n := by omega
 clear hb0 hbk hly how hvr hvg hq hm hn
 go_enter Tryz.func169, Tryz.ntmps169
 go_upto_region 2 with fail
 obtain ⟨W, hW⟩ : ∃ W, (w.alloc (.cells #[.int .i64 0, .string { data := #[] }, .slice none 0 0] 41)).alloc (.cells #[.int .i64 id, .string (bs nd), .slice sa sl sc] 41) = W := ⟨_, rfl⟩
 rw [hW] at HB0 Z0 Z1 K0 L0 O0 ⊢
 clear hW d0 d1 c0 c1 c2
 have d0 := (unhide K0).at 0
 simp at d0
 obtain ⟨R, hR1, hR2⟩ := unhide L0
 have HR1 := hide hR1
 have HR2 := hide hR2
 have hcl := pcells_len l
 have hdl := pcells_len (l.drop (a + 1))
 rw [List.length_drop] at hdl
 rw [unhide HN] at hcl hdl
 have hRl : (pcells l ++ R).length = n * 3 + R.length := by rw [List.length_append, hcl]
 obtain ⟨CS, hCS⟩ : ∃ c, pcells (l.drop (a + 1)) = c := ⟨_, rfl⟩
 have HCS := hide hCS
 rw [hCS] at hdl
 have HDL := hide hdl
 have HRL := hide hRl
 have H1C := hide (show ∀ v ∈ CS, v.oneCell' = true by rw [← hCS]; exact pcells_one _)
 have HSRC := hide (show ∀ j v, CS[j]? = some v → ∀ wx : World, wx.heap[g]? = W.heap[g]? → wx.cell? ⟨g, (a + 1) * 3 + j, none⟩ = some v from fun j v hv wx hx => by
  have e : (pcells l)[(a + 1) * 3 + j]? = some v := by rw [← hCS, ← pcells_drop l (a + 1) (by have := unhide HN; omega), List.getElem?_drop] at hv; exact hv
  have := (unhide L0).cell e
  rw [← this]
  exact World.cell?_of_block (w := W) (a := ⟨g, (a + 1) * 3 + j, none⟩) hx)
 obtain ⟨LL, hLL⟩ : ∃ L, pcells l ++ R = L := ⟨_, rfl⟩
 have HLL := hide hLL
 rw [hLL] at HR1 HRL
 clear hR1 hR2 hcl hdl hRl hCS hLL
 have hle : a ≤ n := by omega
 have hne : ¬ n = a := by omega
 by_cases hlast : a + 1 = n
 ·have hlast' : (a : Int) + 1 = n := by omega
  have hw1 : IntKind.i64.wrap (n : Int) = n := by rw [IntKind.wrap_i64]; omega
  go_region_law (refine step_copy_many rfl (.tmp 19) (.tmp 26) 25 25 rfl 41 3 Tryz.underlying25 hsz _ _ _ _ _ _ rfl rfl g (a * 3) LL 41 (unhide HR1) CS (n - (a + 1)) (by show _ = min _ _; omega) (by have := unhide HDL; omega) (fun hz => absurd hlast (by omega)) (by have := unhide HRL; have := unhide HDL; omega) (unhide H1C) ?_; intro w2 HG2 HM2 hs2)
  all_goals
   have L2 := hide (show Lay w2 41 g M (pcells (l.eraseIdx a)) from by
    obtain ⟨R', e1, e2⟩ := psplice l R a (by have := unhide HN; omega)
    refine ⟨R', ?_, by rw [e2]; exact unhide HR2⟩
    have := unhide HG2
    rw [← unhide HLL, ← unhide HCS, e1] at this
    exact this)
   have K2 := hide ((unhide HM2).blk1 (unhide K0) (by omega))
   have Z02 := hide ((unhide HM2).blk1 (unhide Z0) (by omega))
   have Z12 := hide ((unhide HM2).blk1 (unhide Z1) (by omega))
   have O2 := hide (pown_mks (B := g + 2) (g := g) (unhide HM2) (unhide O0) (by omega))
   have hgW : g ≤ W.heap.size := Nat.le_of_lt (unhide L0).lt
   have B2 := hide (show Below g w w2 from (((unhide HB0).mono (by omega)).drew).trans ((unhide HM2).below (B := g) (fun k (hk : k = g) => by omega) hgW))
   clear hgW
   have hz2 : w.heap.size + 1 < w2.heap.size := (unhide Z12).lt
   have k0 := (unhide K2).at 0
   have kf := (unhide K2).f 0
   simp at k0
   have hn1 : ((n : Int) - 1).toNat = n - 1 := by omega
   have hn2 : (0 : Int) ≤ (n : Int) - 1 := by omega
   clear HG2 HM2 hs2 K0 Z0 Z1 O0 HB0 d0
   go_upto_region 5 with fail
   have L3 := hide ((unhide L2).other (g + 1) 0 (.slice (some ⟨g, 0, none⟩) (n - 1) (n - 1)) (by omega))
   have K3 := hide (show Blk (w2.setCell ⟨g + 1, 0, none⟩ (.slice (some ⟨g, 0, none⟩) (n - 1) (n - 1))) (g + 1) #[.slice (some ⟨g, 0, none⟩) (n - 1) (n - 1), .slice vo m vc] 161 from (unhide K2).set 0 _)
   have Z03 := hide ((unhide Z02).other (g + 1) 0 (.slice (some ⟨g, 0, none⟩) (n - 1) (n - 1)) (by omega))
   have Z13 := hide ((unhide Z12).other (g + 1) 0 (.slice (some ⟨g, 0, none⟩) (n - 1) (n - 1)) (by omega))
   have O3 := hide (pown_other (unhide O2) (g + 1) 0 (.slice (some ⟨g, 0, none⟩) (n - 1) (n - 1)) (by omega))
   have B3 := hide ((unhide B2).setCell (p := ⟨g + 1, 0, none⟩) (by simp) (.slice (some ⟨g, 0, none⟩) (n - 1) (n - 1)))
   generalize w2.setCell ⟨g + 1, 0, none⟩ (.slice (some ⟨g, 0, none⟩) (n - 1) (n - 1)) = w3 at L3 K3 Z03 Z13 O3 B3 ⊢
   have O3' := hide (show w3.ownsRow (g + 2) 41 3 (.slice vo m vc) m (pcells gl) by have := unhide O3; unfold POwn at this; rwa [unhide HM] at this)
   have hz3 : w.heap.size + 1 < w3.heap.size := (unhide Z13).lt
   have hgz : g + 1 < w3.heap.size := by omega
   have k1 := (unhide K3).at 1
   have q0 := (unhide Z13).at 0
   have q1 := (unhide Z13).at 1
   have q2 := (unhide Z13).at 2
   simp at k1 q0 q1 q2
   clear k0 kf K2 Z02 Z12 O2 B2 L2 hz2
   go_region_law (refine step_append_lies _ rfl (.tmp 48) (.tmp 50) 25 rfl (g + 2) 41 i0 (.agg #[.int .i64 0, .string ByteArray.empty, .slice none 0 0]) 3 48 Tryz.underlying25 hi hz0 hz1 hz2 rfl (by decide) (.slice vo m vc) m (pcells gl) rfl (World.ownsRow.alloc (unhide O3') _) ⟨w3.heap.size, 0, none⟩ 1 1 (pcell ⟨id, nd, sa, sl, sc⟩) rfl rfl (World.news_of_block (blk_new _ _ _)) (by intro u hu; simp at hu; rcases hu with rfl | rfl | rfl <;> rfl) (by decide) (by unfold maxLen; omega) (by omega) (by simp; omega) _ rfl ?_; intro go gc w4 hown hgrow hgo _; have HGO := hide hgo; have O4 := hide hown; have G4 := hide hgrow; have K4 := hide (show Blk w4 (g + 1) _ 161 from (hgrow.block (g + 1) (by simp; omega) (fun e => by have := (World.ownsRow.lt (unhide O3') (g + 1) e.symm).1; omega)).trans ((unhide K3).al _)); have k4 := (unhide K4).at 1; have f4 := (unhide K4).f 1; simp at k4; clear hown hgrow hgo)
   all_goals
    have hgo : go < w.heap.size ∨ w.heap.size + 1 < go := by
     rcases unhide HGO with e | e
     ·exact .inl (unhide HVO go e).2
     ·right
      rw [e]
      simp
      omega
    have K5 := hide (show Blk (w4.setCell ⟨g + 1, 1, none⟩ (.slice (some ⟨go, 0, none⟩) (m + 1) gc)) (g + 1) #[.slice (some ⟨g, 0, none⟩) (n - 1) (n - 1), .slice (some ⟨go, 0, none⟩) (m + 1) gc] 161 from (unhide K4).set 1 _)
    have far : ∀ (k : Nat) (arr : Array Value) (t : TypeId), Blk w3 k arr t → (k < g + 2 ∨ w.heap.size ≤ k) → Blk w4 k arr t := fun k arr t hk hn => ((unhide G4).block k (by have := hk.lt; simp; omega) (fun e => by have := unhide HVO k e.symm; omega)).trans (hk.al _)
    have Z05 := hide ((far _ _ _ (unhide Z03) (.inr (Nat.le_refl _))).other (g + 1) 1 (.slice (some ⟨go, 0, none⟩) (m + 1) gc) (by omega))
    have Z15 := hide ((far _ _ _ (unhide Z13) (.inr (by omega))).other (g + 1) 1 (.slice (some ⟨go, 0, none⟩) (m + 1) gc) (by omega))
    have L5 := hide ((show Lay w4 41 g M (pcells (l.eraseIdx a)) from ((unhide L3).below (below_al (Below.refl _ w3) (.cells #[.int .i64 id, .string (bs nd), .slice sa sl sc] 41))).of_block ((unhide G4).block g (by have := (unhide L3).lt; simp; omega) (fun e => by have := (unhide HVO g e.symm).1; omega))).other (g + 1) 1 (.slice (some ⟨go, 0, none⟩) (m + 1) gc) (by omega))
    have O5 := hide (show POwn (g + 2) (w4.setCell ⟨g + 1, 1, none⟩ (.slice (some ⟨go, 0, none⟩) (m + 1) gc)) (.slice (some ⟨go, 0, none⟩) (m + 1) gc) (gl ++ [⟨id, nd, sa, sl, sc⟩]) from pown_other (by unfold POwn; rw [pcells_app, List.length_append, unhide HM]; exact unhide O4) (g + 1) 1 _ (by omega))
    have B5 := hide (show Below g w (w4.setCell ⟨g + 1, 1, none⟩ (.slice (some ⟨go, 0, none⟩) (m + 1) gc)) from ((((unhide B3).trans ((below_al (Below.refl _ w3) (.cells #[.int .i64 id, .string (bs nd), .slice sa sl sc] 41)).mono (by omega))).drew).grown (unhide G4) (by simp; omega) (fun k e => by have := (unhide HVO k e).1; omega)).setCell (p := ⟨g + 1, 1, none⟩) (by simp) _)
    clear far
    generalize w4.setCell ⟨g + 1, 1, none⟩ (.slice (some ⟨go, 0, none⟩) (m + 1) gc) = w5 at K5 Z05 Z15 L5 O5 B5 ⊢
    have s0 := (unhide Z15).at 0; have s1 := (unhide Z15).at 1; have s2 := (unhide Z15).at 2
    have r0 := (unhide Z05).at 0; have r1 := (unhide Z05).at 1; have r2 := (unhide Z05).at 2
    have u0 := (unhide Z05).f 0; have u1 := (unhide Z05).f 1; have u2 := (unhide Z05).f 2
    simp at s0 s1 s2 r0 r1 r2
    clear K3 Z03 Z13 O3 O3' B3 L3 k1 q0 q1 q2 k4 f4 K4 G4 O4 HGO
    go_wp2
    have R9 := hide (show Blk (((w5.setCell ⟨w.heap.size, 0, none⟩ (.int .i64 id)).setCell ⟨w.heap.size, 1, none⟩ (.string (bs nd))).setCell ⟨w.heap.size, 2, none⟩ (.slice sa sl sc)) w.heap.size #[.int .i64 id, .string (bs nd), .slice sa sl sc] 41 from ((((unhide Z05).set 0 (.int .i64 id)).set 1 (.string (bs nd))).set 2 (.slice sa sl sc)))
    have K9 := hide (((((unhide K5).other w.heap.size 0 (.int .i64 id) (by omega)).other w.heap.size 1 (.string (bs nd)) (by omega)).other w.heap.size 2 (.slice sa sl sc) (by omega)))
    have L9 := hide (((((unhide L5).other w.heap.size 0 (.int .i64 id) (by omega)).other w.heap.size 1 (.string (bs nd)) (by omega)).other w.heap.size 2 (.slice sa sl sc) (by omega)))
    have O9 := hide (show POwn (g + 2) (((w5.setCell ⟨w.heap.size, 0, none⟩ (.int .i64 id)).setCell ⟨w.heap.size, 1, none⟩ (.string (bs nd))).setCell ⟨w.heap.size, 2, none⟩ (.slice sa sl sc)) (.slice (some ⟨go, 0, none⟩) (m + 1) gc) (gl ++ [⟨id, nd, sa, sl, sc⟩]) from (ownsRow_setCell_other (ownsRow_setCell_other (ownsRow_setCell_other (unhide O5) (a := ⟨w.heap.size, 0, none⟩) (by simp [Value.ownBlock]; omega) (.int .i64 id)) (a := ⟨w.heap.size, 1, none⟩) (by simp [Value.ownBlock]; omega) (.string (bs nd))) (a := ⟨w.heap.size, 2, none⟩) (by simp [Value.ownBlock]; omega) (.slice sa sl sc)))
    have B9 := hide (((((unhide B5).setCell (p := ⟨w.heap.size, 0, none⟩) (by show g ≤ w.heap.size; omega) (.int .i64 id)).setCell (p := ⟨w.heap.size, 1, none⟩) (by show g ≤ w.heap.size; omega) (.string (bs nd))).setCell (p := ⟨w.heap.size, 2, none⟩) (by show g ≤ w.heap.size; omega) (.slice sa sl sc)))
    generalize (((w5.setCell ⟨w.heap.size, 0, none⟩ (.int .i64 id)).setCell ⟨w.heap.size, 1, none⟩ (.string (bs nd))).setCell ⟨w.heap.size, 2, none⟩ (.slice sa sl sc)) = W9 at R9 K9 L9 O9 B9 ⊢
    have z0 := (unhide R9).at 0; have z1 := (unhide R9).at 1; have z2 := (unhide R9).at 2
    simp at z0 z1 z2
    refine bodyPost_ret (v := .agg #[.int .i64 id, .string (bs nd), .slice sa sl sc]) (by simp [results, Tryz.results169, go_sem, z0, z1, z2]) rfl ⟨rfl, ⟨_, ?_, unhide L9, unhide O9⟩, unhide B9⟩
    rw [List.length_eraseIdx_of_lt (by have := unhide HN; omega), unhide HN]
    exact unhide K9
 ·have hw1 : IntKind.i64.wrap ((a : Int) + 1) = (a : Int) + 1 := by rw [IntKind.wrap_i64]; omega
  have hle2 : (a : Int) + 1 ≤ n := by omega
  have hle3 : a + 1 ≤ n := by omega
  have hne2 : ¬ n = a + 1 := by omega
  have htn : ((a : Int) + 1).toNat = a + 1 := by omega
  have ha2 : (0 : Int) ≤ (a : Int) + 1 := by omega
  go_region_law (refine step_copy_many rfl (.tmp 19) (.tmp 26) 25 25 rfl 41 3 Tryz.underlying25 hsz _ _ _ _ _ _ rfl rfl g (a * 3) LL 41 (unhide HR1) CS (n - (a + 1)) (by show _ = min _ _; omega) (by have := unhide HDL; omega) (fun hz => ⟨rfl, _, rfl, fun j v hv => by rw [Lib.add_plain]; exact unhide HSRC j v hv _ rfl⟩) (by have := unhide HRL; have := unhide HDL; omega) (unhide H1C) ?_; intro w2 HG2 HM2 hs2)
  all_goals
   have L2 := hide (show Lay w2 41 g M (pcells (l.eraseIdx a)) from by
    obtain ⟨R', e1, e2⟩ := psplice l R a (by have := unhide HN; omega)
    refine ⟨R', ?_, by rw [e2]; exact unhide HR2⟩
    have := unhide HG2
    rw [← unhide HLL, ← unhide HCS, e1] at this
    exact this)
   have K2 := hide ((unhide HM2).blk1 (unhide K0) (by omega))
   have Z02 := hide ((unhide HM2).blk1 (unhide Z0) (by omega))
   have Z12 := hide ((unhide HM2).blk1 (unhide Z1) (by omega))
   have O2 := hide (pown_mks (B := g + 2) (g := g) (unhide HM2) (unhide O0) (by omega))
   have hgW : g ≤ W.heap.size := Nat.le_of_lt (unhide L0).lt
   have B2 := hide (show Below g w w2 from (((unhide HB0).mono (by omega)).drew).trans ((unhide HM2).below (B := g) (fun k (hk : k = g) => by omega) hgW))
   clear hgW
   have hz2 : w.heap.size + 1 < w2.heap.size := (unhide Z12).lt
   have k0 := (unhide K2).at 0
   have kf := (unhide K2).f 0
   simp at k0
   have hn1 : ((n : Int) - 1).toNat = n - 1 := by omega
   have hn2 : (0 : Int) ≤ (n : Int) - 1 := by omega
   clear HG2 HM2 hs2 K0 Z0 Z1 O0 HB0 d0
   go_upto_region 5 with fail
   have L3 := hide ((unhide L2).other (g + 1) 0 (.slice (some ⟨g, 0, none⟩) (n - 1) (n - 1)) (by omega))
   have K3 := hide (show Blk (w2.setCell ⟨g + 1, 0, none⟩ (.slice (some ⟨g, 0, none⟩) (n - 1) (n - 1))) (g + 1) #[.slice (some ⟨g, 0, none⟩) (n - 1) (n - 1), .slice vo m vc] 161 from (unhide K2).set 0 _)
   have Z03 := hide ((unhide Z02).other (g + 1) 0 (.slice (some ⟨g, 0, none⟩) (n - 1) (n - 1)) (by omega))
   have Z13 := hide ((unhide Z12).other (g + 1) 0 (.slice (some ⟨g, 0, none⟩) (n - 1) (n - 1)) (by omega))
   have O3 := hide (pown_other (unhide O2) (g + 1) 0 (.slice (some ⟨g, 0, none⟩) (n - 1) (n - 1)) (by omega))
   have B3 := hide ((unhide B2).setCell (p := ⟨g + 1, 0, none⟩) (by simp) (.slice (some ⟨g, 0, none⟩) (n - 1) (n - 1)))
   generalize w2.setCell ⟨g + 1, 0, none⟩ (.slice (some ⟨g, 0, none⟩) (n - 1) (n - 1)) = w3 at L3 K3 Z03 Z13 O3 B3 ⊢
   have O3' := hide (show w3.ownsRow (g + 2) 41 3 (.slice vo m vc) m (pcells gl) by have := unhide O3; unfold POwn at this; rwa [unhide HM] at this)
   have hz3 : w.heap.size + 1 < w3.heap.size := (unhide Z13).lt
   have hgz : g + 1 < w3.heap.size := by omega
   have k1 := (unhide K3).at 1
   have q0 := (unhide Z13).at 0
   have q1 := (unhide Z13).at 1
   have q2 := (unhide Z13).at 2
   simp at k1 q0 q1 q2
   clear k0 kf K2 Z02 Z12 O2 B2 L2 hz2
   go_region_law (refine step_append_lies _ rfl (.tmp 48) (.tmp 50) 25 rfl (g + 2) 41 i0 (.agg #[.int .i64 0, .string ByteArray.empty, .slice none 0 0]) 3 48 Tryz.underlying25 hi hz0 hz1 hz2 rfl (by decide) (.slice vo m vc) m (pcells gl) rfl (World.ownsRow.alloc (unhide O3') _) ⟨w3.heap.size, 0, none⟩ 1 1 (pcell ⟨id, nd, sa, sl, sc⟩) rfl rfl (World.news_of_block (blk_new _ _ _)) (by intro u hu; simp at hu; rcases hu with rfl | rfl | rfl <;> rfl) (by decide) (by unfold maxLen; omega) (by omega) (by simp; omega) _ rfl ?_; intro go gc w4 hown hgrow hgo _; have HGO := hide hgo; have O4 := hide hown; have G4 := hide hgrow; have K4 := hide (show Blk w4 (g + 1) _ 161 from (hgrow.block (g + 1) (by simp; omega) (fun e => by have := (World.ownsRow.lt (unhide O3') (g + 1) e.symm).1; omega)).trans ((unhide K3).al _)); have k4 := (unhide K4).at 1; have f4 := (unhide K4).f 1; simp at k4; clear hown hgrow hgo)
   all_goals
    have hgo : go < w.heap.size ∨ w.heap.size + 1 < go := by
     rcases unhide HGO with e | e
     ·exact .inl (unhide HVO go e).2
     ·right
      rw [e]
      simp
      omega
    have K5 := hide (show Blk (w4.setCell ⟨g + 1, 1, none⟩ (.slice (some ⟨go, 0, none⟩) (m + 1) gc)) (g + 1) #[.slice (some ⟨g, 0, none⟩) (n - 1) (n - 1), .slice (some ⟨go, 0, none⟩) (m + 1) gc] 161 from (unhide K4).set 1 _)
    have far : ∀ (k : Nat) (arr : Array Value) (t : TypeId), Blk w3 k arr t → (k < g + 2 ∨ w.heap.size ≤ k) → Blk w4 k arr t := fun k arr t hk hn => ((unhide G4).block k (by have := hk.lt; simp; omega) (fun e => by have := unhide HVO k e.symm; omega)).trans (hk.al _)
    have Z05 := hide ((far _ _ _ (unhide Z03) (.inr (Nat.le_refl _))).other (g + 1) 1 (.slice (some ⟨go, 0, none⟩) (m + 1) gc) (by omega))
    have Z15 := hide ((far _ _ _ (unhide Z13) (.inr (by omega))).other (g + 1) 1 (.slice (some ⟨go, 0, none⟩) (m + 1) gc) (by omega))
    have L5 := hide ((show Lay w4 41 g M (pcells (l.eraseIdx a)) from ((unhide L3).below (below_al (Below.refl _ w3) (.cells #[.int .i64 id, .string (bs nd), .slice sa sl sc] 41))).of_block ((unhide G4).block g (by have := (unhide L3).lt; simp; omega) (fun e => by have := (unhide HVO g e.symm).1; omega))).other (g + 1) 1 (.slice (some ⟨go, 0, none⟩) (m + 1) gc) (by omega))
    have O5 := hide (show POwn (g + 2) (w4.setCell ⟨g + 1, 1, none⟩ (.slice (some ⟨go, 0, none⟩) (m + 1) gc)) (.slice (some ⟨go, 0, none⟩) (m + 1) gc) (gl ++ [⟨id, nd, sa, sl, sc⟩]) from pown_other (by unfold POwn; rw [pcells_app, List.length_append, unhide HM]; exact unhide O4) (g + 1) 1 _ (by omega))
    have B5 := hide (show Below g w (w4.setCell ⟨g + 1, 1, none⟩ (.slice (some ⟨go, 0, none⟩) (m + 1) gc)) from ((((unhide B3).trans ((below_al (Below.refl _ w3) (.cells #[.int .i64 id, .string (bs nd), .slice sa sl sc] 41)).mono (by omega))).drew).grown (unhide G4) (by simp; omega) (fun k e => by have := (unhide HVO k e).1; omega)).setCell (p := ⟨g + 1, 1, none⟩) (by simp) _)
    clear far
    generalize w4.setCell ⟨g + 1, 1, none⟩ (.slice (some ⟨go, 0, none⟩) (m + 1) gc) = w5 at K5 Z05 Z15 L5 O5 B5 ⊢
    have s0 := (unhide Z15).at 0; have s1 := (unhide Z15).at 1; have s2 := (unhide Z15).at 2
    have r0 := (unhide Z05).at 0; have r1 := (unhide Z05).at 1; have r2 := (unhide Z05).at 2
    have u0 := (unhide Z05).f 0; have u1 := (unhide Z05).f 1; have u2 := (unhide Z05).f 2
    simp at s0 s1 s2 r0 r1 r2
    clear K3 Z03 Z13 O3 O3' B3 L3 k1 q0 q1 q2 k4 f4 K4 G4 O4 HGO
    go_wp2
    have R9 := hide (show Blk (((w5.setCell ⟨w.heap.size, 0, none⟩ (.int .i64 id)).setCell ⟨w.heap.size, 1, none⟩ (.string (bs nd))).setCell ⟨w.heap.size, 2, none⟩ (.slice sa sl sc)) w.heap.size #[.int .i64 id, .string (bs nd), .slice sa sl sc] 41 from ((((unhide Z05).set 0 (.int .i64 id)).set 1 (.string (bs nd))).set 2 (.slice sa sl sc)))
    have K9 := hide (((((unhide K5).other w.heap.size 0 (.int .i64 id) (by omega)).other w.heap.size 1 (.string (bs nd)) (by omega)).other w.heap.size 2 (.slice sa sl sc) (by omega)))
    have L9 := hide (((((unhide L5).other w.heap.size 0 (.int .i64 id) (by omega)).other w.heap.size 1 (.string (bs nd)) (by omega)).other w.heap.size 2 (.slice sa sl sc) (by omega)))
    have O9 := hide (show POwn (g + 2) (((w5.setCell ⟨w.heap.size, 0, none⟩ (.int .i64 id)).setCell ⟨w.heap.size, 1, none⟩ (.string (bs nd))).setCell ⟨w.heap.size, 2, none⟩ (.slice sa sl sc)) (.slice (some ⟨go, 0, none⟩) (m + 1) gc) (gl ++ [⟨id, nd, sa, sl, sc⟩]) from (ownsRow_setCell_other (ownsRow_setCell_other (ownsRow_setCell_other (unhide O5) (a := ⟨w.heap.size, 0, none⟩) (by simp [Value.ownBlock]; omega) (.int .i64 id)) (a := ⟨w.heap.size, 1, none⟩) (by simp [Value.ownBlock]; omega) (.string (bs nd))) (a := ⟨w.heap.size, 2, none⟩) (by simp [Value.ownBlock]; omega) (.slice sa sl sc)))
    have B9 := hide (((((unhide B5).setCell (p := ⟨w.heap.size, 0, none⟩) (by show g ≤ w.heap.size; omega) (.int .i64 id)).setCell (p := ⟨w.heap.size, 1, none⟩) (by show g ≤ w.heap.size; omega) (.string (bs nd))).setCell (p := ⟨w.heap.size, 2, none⟩) (by show g ≤ w.heap.size; omega) (.slice sa sl sc)))
    generalize (((w5.setCell ⟨w.heap.size, 0, none⟩ (.int .i64 id)).setCell ⟨w.heap.size, 1, none⟩ (.string (bs nd))).setCell ⟨w.heap.size, 2, none⟩ (.slice sa sl sc)) = W9 at R9 K9 L9 O9 B9 ⊢
    have z0 := (unhide R9).at 0; have z1 := (unhide R9).at 1; have z2 := (unhide R9).at 2
    simp at z0 z1 z2
    refine bodyPost_ret (v := .agg #[.int .i64 id, .string (bs nd), .slice sa sl sc]) (by simp [results, Tryz.results169, go_sem, z0, z1, z2]) rfl ⟨rfl, ⟨_, ?_, unhide L9, unhide O9⟩, unhide B9⟩
    rw [List.length_eraseIdx_of_lt (by have := unhide HN; omega), unhide HN]
    exact unhide K9

end Go.Proofs.YtbkchepelhkjlaaGreat

/-
 The program's generic list from which some are taken, of applications: takeAll (mktak.py wrote this); a walk over the dump.
-/
namespace Go.Proofs.YtbkchepelhkjlaaGreat
open Go.RowKit
set_option linter.unusedVariables false
/-- how many stay -/
def stLenP (w : World) (p : Nat) : Nat := match w.cell? ⟨p, 0, none⟩ with | some (.slice _ n _) => n | _ => 0
theorem stLenP_of {w : World} {p n c : Nat} {ao : Option Addr} (h : w.cell? ⟨p, 0, none⟩ = some (.slice ao n c)) : stLenP w p = n := by simp [stLenP, h]
theorem TakP.len {w : World} {g M : Nat} {l gl : List AV} (h : TakP w g M l gl) : stLenP w (g + 1) = l.length := by
 obtain ⟨v, hb, _⟩ := h
 have := hb.at 0
 simp at this
 exact stLenP_of this

set_option maxRecDepth 100000 in
set_option maxHeartbeats 4000000 in
theorem takeAllP_any (gf : Nat) (lb : Array Value) (eg : ∀ args w, (callFunc gf args).run Tryz.prog w = .ok (.enter gf args) w) (p : AV → Bool) (g M : Nat) (l gl : List AV) (w : World) (h : TakP w g M l gl) (hl : gl.length + l.length ≤ 1048576)
  (hp : ∀ wx q, q ∈ l → Below g w wx → Calls Tryz.prog gf (#[avv q] ++ lb) wx fun e w' => e = .returned (.bool (p q)) ∧ Below wx.heap.size wx w') :
  Calls Tryz.prog 142 #[.pointer (some ⟨g + 1, 0, none⟩), .func (.func gf) #[] lb] w fun e w' => e = .returned (.tuple #[]) ∧ TakP w' g M (l.filter (fun q => !p q)) (gl ++ l.filter p) ∧ Below g w w' := by
 have HT := hide h
 have HP := hide hp
 clear h hp
 go_enter Tryz.func142, Tryz.ntmps142
 go_wp2
 go_loopw [4] (fun i wr => ∃ (k : Nat), i = .int .i64 (k : Int) ∧ Hid (∃ d, d ≤ l.length ∧ k = ((l.take d).filter (fun q => !p q)).length ∧ TakP wr g M ((l.take d).filter (fun q => !p q) ++ l.drop d) (gl ++ (l.take d).filter p)) ∧ Hid (Below g w wr)) (fun i wr => stLenP wr (g + 1) - (intOf i).toNat)
 case atStart => exact ⟨0, rfl, hide ⟨0, Nat.zero_le _, by simp, by simpa using unhide HT⟩, hide (Below.refl _ _)⟩
 case round =>
  obtain ⟨k, rfl, HK, HB⟩ := hrel
  obtain ⟨d, hd, hk, ht⟩ := unhide HK
  have hkd : k ≤ d := by rw [hk]; refine Nat.le_trans (List.length_filter_le _ _) ?_; rw [List.length_take]; omega
  have hk2 : k ≤ 1048576 := by omega
  obtain ⟨v, hbk, hly, how⟩ := ht
  have c0 := (hbk.at 0).trans (show _ = some (Value.slice (some ⟨g, 0, none⟩) ((l.take d).filter (fun q => !p q) ++ l.drop d).length ((l.take d).filter (fun q => !p q) ++ l.drop d).length) from rfl)
  have hlen : ((l.take d).filter (fun q => !p q) ++ l.drop d).length = k + (l.length - d) := by rw [List.length_append, List.length_drop, ← hk]
  rw [hlen] at c0
  obtain ⟨n, hn⟩ : ∃ n, k + (l.length - d) = n := ⟨_, rfl⟩
  rw [hn] at c0
  have hm := stLenP_of c0
  by_cases hlt : d < l.length
  ·have hkn : (k : Int) < n := by omega
   have hel : k < ((l.take d).filter (fun q => !p q) ++ l.drop d).length := by omega
   have hq : ((l.take d).filter (fun q => !p q) ++ l.drop d)[k] = l[d] := by
    rw [List.getElem_append_right (by omega)]
    simp [← hk]
   obtain ⟨x0, x1, x2⟩ := pcells_at _ k hel
   rw [hq] at x0 x1 x2
   have e0 := hly.cell x0; have e1 := hly.cell x1; have e2 := hly.cell x2
   have CL := hide (unhide HP wr l[d] (List.getElem_mem hlt) (unhide HB))
   have hsp : l.take (d + 1) = l.take d ++ [l[d]] := by rw [List.take_succ_eq_append_getElem hlt]
   have hdr : l.drop d = l[d] :: l.drop (d + 1) := List.drop_eq_getElem_cons hlt
   have hgk : (gl ++ (l.take d).filter p).length ≤ 1048576 := by
    have := List.length_filter_le p (l.take d)
    rw [List.length_take] at this
    rw [List.length_append]
    omega
   have CT := hide (fun wx (hb : Below wr.heap.size wr wx) => takeP_any g M k _ _ wx (TakP.below ⟨v, hbk, hly, how⟩ hb) hel (by omega) hgk)
   rw [hq] at CT
   have HTK := hide (show TakP wr g M _ _ from ⟨v, hbk, hly, how⟩)
   obtain ⟨q, hqe⟩ : ∃ q, l[d] = q := ⟨_, rfl⟩
   rw [hqe] at e0 e1 e2 CL CT hsp hdr
   have HSP := hide hsp
   have HDR := hide hdr
   have HKK := hide hk
   have HLN := hide hlen
   have HNN := hide hn
   have HM := hide hm
   have hd' : d + 1 ≤ l.length := hlt
   obtain ⟨id, nd, sa, sl, sc⟩ := q
   simp only at e0 e1 e2
   have k0 : (0 : Int) ≤ k := by omega
   clear hbk hly how x0 x1 x2 hq hqe hsp hdr hk hlen hn hm hgk HK hel
   cases hpq : p ⟨id, nd, sa, sl, sc⟩ with
   | true =>
    rw [hpq] at CL
    have HPQ := hide hpq
    clear hpq
    go_wp2_with (go_at_fn gf; refine (unhide CL).mono ?_; rintro e w1 ⟨rfl, hb⟩; have HB1 := hide hb; clear hb CL)
    go_wp2_with fail
    refine (unhide CT _ (unhide HB1)).mono ?_
    rintro e w2 ⟨rfl, ht, hb⟩
    have HT2 := hide ht
    have hz : g ≤ wr.heap.size := by obtain ⟨v, hbk, _⟩ := unhide HTK; have := hbk.lt; omega
    have HB2 := hide (((unhide HB).trans ((unhide HB1).mono hz)).trans hb)
    clear ht hb CT
    go_wp2
    go_roundw
    case rel =>
     refine ⟨k, rfl, hide ⟨d + 1, hd', ?_, ?_⟩, HB2⟩
     ·rw [unhide HSP, List.filter_append, unhide HKK]
      simp [unhide HPQ]
     ·have := unhide HT2
      rw [unhide HDR, List.eraseIdx_append_of_length_le (by have := unhide HKK; omega)] at this
      rw [show k - ((l.take d).filter (fun q => !p q)).length = 0 by have := unhide HKK; omega, List.eraseIdx_cons_zero] at this
      rw [unhide HSP, List.filter_append, List.filter_append]
      simpa [unhide HPQ] using this
    case measure =>
     rw [(unhide HT2).len, unhide HM]
     have hh := unhide HLN
     have hnn := unhide HNN
     rw [List.length_eraseIdx_of_lt (by omega), hh]
     simp [intOf]
     omega
   | false =>
    rw [hpq] at CL
    have HPQ := hide hpq
    clear hpq
    go_wp2_with (go_at_fn gf; refine (unhide CL).mono ?_; rintro e w1 ⟨rfl, hb⟩; have HB1 := hide hb; clear hb CL)
    have hz : g ≤ wr.heap.size := by obtain ⟨v, hbk, _⟩ := unhide HTK; have := hbk.lt; omega
    go_wp2
    go_roundw
    case rel =>
     refine ⟨k + 1, by go_num, hide ⟨d + 1, hd', ?_, ?_⟩, hide ((unhide HB).trans ((unhide HB1).mono hz))⟩
     ·rw [unhide HSP, List.filter_append, List.length_append, ← unhide HKK]
      simp [unhide HPQ]
     ·have := (unhide HTK).below (unhide HB1)
      rw [unhide HDR] at this
      rw [unhide HSP, List.filter_append, List.filter_append]
      simpa [unhide HPQ] using this
    case measure =>
     rw [((unhide HTK).below (unhide HB1)).len, unhide HM, unhide HLN]
     have hnn := unhide HNN
     simp [intOf]
     omega
  ·have hkn : ¬ (k : Int) < n := by omega
   have HTK := hide (show TakP wr g M _ _ from ⟨v, hbk, hly, how⟩)
   have htk : l.take d = l := List.take_of_length_le (by omega)
   have hdr : l.drop d = [] := List.drop_of_length_le (by omega)
   rw [htk, hdr, List.append_nil] at HTK
   clear hbk hly how HK hk hlen htk hdr
   go_wp2
   go_end0
   exact ⟨rfl, unhide HTK, unhide HB⟩
end Go.Proofs.YtbkchepelhkjlaaGreat

/-
 A container copied: what the program's copyOfCont answers; a walk over the dump.
-/
namespace Go.Proofs.YtbkchepelhkjlaaGreat
open Go.RowKit
set_option linter.unusedVariables false
set_option maxRecDepth 100000 in
set_option maxHeartbeats 2000000 in
theorem copyOfCont_any (q : Con) (w : World) (hn : q.node.length ≤ 1048576) :
  Calls Tryz.prog 167 #[conv q] w fun e w' => e = .returned (conv q) ∧ Below w.heap.size w w' := by
 obtain ⟨id, ap, nd, me, cp⟩ := q
 simp only at hn
 have hs : (bs nd).size ≤ 281474976710656 := by rw [bs_size]; omega
 have HB0 := hide (below_al (below_al (Below.refl _ w) (.cells #[.int .i64 id, .int .i64 ap, .string (bs nd), .int .i64 me, .int .i64 cp] 70)) (.cells #[.int .i64 0, .int .i64 0, .string ByteArray.empty, .int .i64 0, .int .i64 0] 70))
 have P0 := hide ((blk_new w #[.int .i64 id, .int .i64 ap, .string (bs nd), .int .i64 me, .int .i64 cp] 70).al (.cells #[.int .i64 0, .int .i64 0, .string ByteArray.empty, .int .i64 0, .int .i64 0] 70))
 have P1 := hide (show Blk _ (w.heap.size + 1) #[.int .i64 0, .int .i64 0, .string ByteArray.empty, .int .i64 0, .int .i64 0] 70 by have := blk_new (w.alloc (.cells #[.int .i64 id, .int .i64 ap, .string (bs nd), .int .i64 me, .int .i64 cp] 70)) #[.int .i64 0, .int .i64 0, .string ByteArray.empty, .int .i64 0, .int .i64 0] 70; rwa [al_size] at this)
 clear hn
 go_enter Tryz.func167, Tryz.ntmps167
 go_wp2_with fail
 refine (clone_any (bs nd) _ hs).mono ?_
 rintro e w1 ⟨rfl, hb⟩
 have HB1 := hide (below_on (unhide HB0) hb)
 have Q0 := hide ((unhide P0).below hb)
 have Q1 := hide ((unhide P1).below hb)
 clear hb HB0 P0 P1
 have d2 := (unhide Q0).at 2
 have f2 := (unhide Q0).f 2
 simp at d2
 go_upto_region 2 with fail
 have HB2 := hide (below_sc (unhide HB1) w.heap.size 2 (.string (bs nd)) (Nat.le_refl _))
 have R0 := hide (show Blk (w1.setCell ⟨w.heap.size, 2, none⟩ (.string (bs nd))) w.heap.size #[.int .i64 id, .int .i64 ap, .string (bs nd), .int .i64 me, .int .i64 cp] 70 from (unhide Q0).set 2 (.string (bs nd)))
 have R1 := hide ((unhide Q1).other w.heap.size 2 (.string (bs nd)) (by omega))
 generalize w1.setCell ⟨w.heap.size, 2, none⟩ (.string (bs nd)) = w2 at HB2 R0 R1 ⊢
 clear d2 f2 HB1 Q0 Q1
 have a0 := (unhide R0).at 0; have a1 := (unhide R0).at 1; have a2 := (unhide R0).at 2; have a3 := (unhide R0).at 3; have a4 := (unhide R0).at 4
 have c0 := (unhide R1).at 0; have c1 := (unhide R1).at 1; have c2 := (unhide R1).at 2; have c3 := (unhide R1).at 3; have c4 := (unhide R1).at 4
 have f0 := (unhide R1).f 0; have f1 := (unhide R1).f 1; have f2 := (unhide R1).f 2; have f3 := (unhide R1).f 3; have f4 := (unhide R1).f 4
 simp at a0 a1 a2 a3 a4 c0 c1 c2 c3 c4
 go_wp2
 have HB9 := hide (below_sc (below_sc (below_sc (below_sc (below_sc (unhide HB2) (w.heap.size + 1) 0 (.int .i64 id) (by omega)) (w.heap.size + 1) 1 (.int .i64 ap) (by omega)) (w.heap.size + 1) 2 (.string (bs nd)) (by omega)) (w.heap.size + 1) 3 (.int .i64 me) (by omega)) (w.heap.size + 1) 4 (.int .i64 cp) (by omega))
 have R9 := hide (show Blk (((((w2.setCell ⟨w.heap.size + 1, 0, none⟩ (.int .i64 id)).setCell ⟨w.heap.size + 1, 1, none⟩ (.int .i64 ap)).setCell ⟨w.heap.size + 1, 2, none⟩ (.string (bs nd))).setCell ⟨w.heap.size + 1, 3, none⟩ (.int .i64 me)).setCell ⟨w.heap.size + 1, 4, none⟩ (.int .i64 cp)) (w.heap.size + 1) #[.int .i64 id, .int .i64 ap, .string (bs nd), .int .i64 me, .int .i64 cp] 70 from (((((unhide R1).set 0 (.int .i64 id)).set 1 (.int .i64 ap)).set 2 (.string (bs nd))).set 3 (.int .i64 me)).set 4 (.int .i64 cp))
 generalize (((((w2.setCell ⟨w.heap.size + 1, 0, none⟩ (.int .i64 id)).setCell ⟨w.heap.size + 1, 1, none⟩ (.int .i64 ap)).setCell ⟨w.heap.size + 1, 2, none⟩ (.string (bs nd))).setCell ⟨w.heap.size + 1, 3, none⟩ (.int .i64 me)).setCell ⟨w.heap.size + 1, 4, none⟩ (.int .i64 cp)) = W9 at HB9 R9 ⊢
 have z0 := (unhide R9).at 0; have z1 := (unhide R9).at 1; have z2 := (unhide R9).at 2; have z3 := (unhide R9).at 3; have z4 := (unhide R9).at 4
 simp at z0 z1 z2 z3 z4
 refine bodyPost_ret (v := .agg #[.int .i64 id, .int .i64 ap, .string (bs nd), .int .i64 me, .int .i64 cp]) (by simp [results, Tryz.results167, go_sem, z0, z1, z2, z3, z4]) rfl ⟨rfl, unhide HB9⟩
end Go.Proofs.YtbkchepelhkjlaaGreat

/-
 Containers copied: what the program's copyOfConts answers: the same containers, in memory of their own; a walk over the dump.
-/
namespace Go.Proofs.YtbkchepelhkjlaaGreat
open Go.RowKit
set_option linter.unusedVariables false
theorem CHas.blk {B n k : Nat} {w : World} {ao : Option Addr} {l : List Con} (h : CHas B w ao n l) (hk : k < n) : ∃ g, ao = some ⟨g, 0, none⟩ ∧ B ≤ g ∧ g < w.heap.size ∧ (∀ j, w.frozen? ⟨g, j, none⟩ = false) ∧ ∀ i (hi : i < l.length), ConAt w g (i * 5) l[i] := by
 obtain ⟨⟨h1, h2⟩, h3⟩ := h
 rcases h3 with e | ⟨g, M, rfl, hB, hE, hc, hn⟩
 ·omega
 ·rcases h2 with e | ⟨b, off, e, hh⟩
  ·omega
  ·cases e
   exact ⟨g, rfl, hB, hE, fun j => hc.frozen j, fun i hi => by have := hh i hi; rwa [Nat.zero_add] at this⟩

set_option maxRecDepth 100000 in
set_option maxHeartbeats 4000000 in
theorem copyOfConts_any (ao : Option Addr) (len cap : Nat) (cs : List Con) (w : World) (h : ConRow w ao len cs) (hl : len ≤ 1048576) (hn : ∀ c ∈ cs, c.node.length ≤ 1048576) :
  Calls Tryz.prog 137 #[.slice ao len cap] w fun e w' => ∃ co cd, e = .returned (.slice co cs.length cd) ∧ cs.length ≤ cd ∧ CHas w.heap.size w' co cs.length cs ∧ Own1 w.heap.size w'.heap.size w' 70 5 co cd ∧ Below w.heap.size w w' := by
 have HF := hide hn
 have CC := hide (cloneCont_any ao len cap cs w h hl)
 have hll := hide h.1
 clear h hn
 go_enter Tryz.func137, Tryz.ntmps137
 go_wp2_with fail
 refine (unhide CC).mono ?_
 rintro e w9 ⟨v, rfl, ho, hb⟩
 obtain ⟨co, cd, rfl, hcd, hch⟩ := cown_has ho
 obtain ⟨n4, hn4⟩ : ∃ n, cs.length = n := ⟨_, rfl⟩
 rw [hn4] at hch hcd ⊢
 have OC := hide hch
 have HO9 := hide (own1_of ho)
 have HB9 := hide hb
 have HN4 := hide hn4
 have hl4 : n4 ≤ 1048576 := by have := unhide hll; omega
 clear ho hb hch CC hn4
 go_wp2
 go_loopw [4, 5, 10] (fun _ _ i wr => ∃ (q : Nat), q ≤ n4 ∧ i = .int .i64 q ∧ Hid (CHas w.heap.size wr co n4 cs) ∧ Hid (Own1 w.heap.size wr.heap.size wr 70 5 co cd) ∧ Hid (Below w.heap.size w wr)) (fun _ _ i _ => n4 - (intOf i).toNat)
 case atStart => exact ⟨0, Nat.zero_le _, rfl, OC, HO9, HB9⟩
 case round =>
  obtain ⟨q, hq, rfl, HC, HO, HB⟩ := hrel
  clear OC HO9 HB9
  by_cases hlt : q < n4
  ·obtain ⟨g, rfl, hgB, hgE, hfz, hat⟩ := (unhide HC).blk hlt
   have hjl : q < cs.length := by have := unhide HN4; omega
   obtain ⟨c0, c1, c2, c3, c4⟩ := hat q hjl
   have hnm := unhide HF cs[q] (List.getElem_mem hjl)
   obtain ⟨⟨ci, cap, cn, me, cp⟩, hm⟩ : ∃ m, cs[q] = m := ⟨_, rfl⟩
   rw [hm] at c0 c1 c2 c3 c4 hnm
   simp only at c0 c1 c2 c3 c4 hnm
   have HW := hide (below_al (Below.refl _ wr) (.cells #[.int .i64 ci, .int .i64 cap, .string (bs cn), .int .i64 me, .int .i64 cp] 70))
   have XC := hide ((unhide HC).below (unhide HW))
   have XB := hide (below_on (unhide HB) (unhide HW))
   have XO := hide ((unhide HO).grow (unhide HW) (Nat.le_refl _))
   have XA := hide (blk_new wr #[.int .i64 ci, .int .i64 cap, .string (bs cn), .int .i64 me, .int .i64 cp] 70)
   have D0 := hide (cellBel c0 (unhide HW))
   have D1 := hide (cellBel c1 (unhide HW))
   have D2 := hide (cellBel c2 (unhide HW))
   have D3 := hide (cellBel c3 (unhide HW))
   have D4 := hide (cellBel c4 (unhide HW))
   have CL := hide (fun wx => copyOfCont_any ⟨ci, cap, cn, me, cp⟩ wx hnm)
   have j0 : (0 : Int) ≤ q := by omega
   have j1 : (q : Int) < n4 := by omega
   clear hat hm hjl hfz hnm
   obtain ⟨W, hW⟩ : ∃ W, wr.alloc (.cells #[.int .i64 ci, .int .i64 cap, .string (bs cn), .int .i64 me, .int .i64 cp] 70) = W := ⟨_, rfl⟩
   have XA1 := unhide XA
   rw [hW] at XC XB XO D0 D1 D2 D3 D4 XA1
   have xa0 := (unhide XA).at 0
   have xa1 := (unhide XA).at 1
   have xa2 := (unhide XA).at 2
   have xa3 := (unhide XA).at 3
   have xa4 := (unhide XA).at 4
   simp at xa0 xa1 xa2 xa3 xa4
   have HWW := hide hW
   clear hW HW HC HB HO XA XA1
   go_wp2_with fail
   refine (unhide CL _).mono ?_
   rintro e w6 ⟨rfl, hb⟩
   rw [unhide HWW] at hb
   have HB6 := hide (below_on (Below.refl _ W) hb)
   clear c0 c1 c2 c3 c4
   have c0 := cellBel (unhide D0) (unhide HB6); have c1 := cellBel (unhide D1) (unhide HB6); have c2 := cellBel (unhide D2) (unhide HB6); have c3 := cellBel (unhide D3) (unhide HB6); have c4 := cellBel (unhide D4) (unhide HB6)
   have s0 := sc_same c0; have s1 := sc_same c1; have s2 := sc_same c2; have s3 := sc_same c3; have s4 := sc_same c4
   obtain ⟨g', e', _, _, hfz, _⟩ := ((unhide XC).below (unhide HB6)).blk hlt
   cases e'
   have z0 := hfz (q * 5); have z1 := hfz (q * 5 + 1); have z2 := hfz (q * 5 + 2); have z3 := hfz (q * 5 + 3); have z4 := hfz (q * 5 + 4)
   clear hb hfz
   go_wp2
   go_roundw
   case rel => exact ⟨q + 1, by omega, by go_num, hide ((unhide XC).below (unhide HB6)), hide ((unhide XO).grow (unhide HB6) (Nat.le_refl _)), hide (below_on (unhide XB) (unhide HB6))⟩
   case measure => simp [intOf]; omega
  ·obtain rfl : q = n4 := by omega
   have j1 : ¬ (q : Int) < q := by omega
   clear hlt
   go_wp2
   go_ret
   rw [unhide HN4]
   exact ⟨co, cd, rfl, hcd, unhide HC, unhide HO, unhide HB⟩
end Go.Proofs.YtbkchepelhkjlaaGreat
