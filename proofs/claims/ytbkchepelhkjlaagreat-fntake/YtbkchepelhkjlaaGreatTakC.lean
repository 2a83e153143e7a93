/-
 The program's generic list from which some are taken, of containers: takingFrom, take, takeAll (mktak.py wrote this); walks over the dump.
-/
import Derived.Test.YtbkchepelhkjlaaGreatPackC
import Derived.Test.YtbkchepelhkjlaaGreatPackE
import Derived.Shelf.Abstract
import Derived.OneCell
import Derived.Deep.CutBlock
import Derived.Deep.CutRange
namespace Go.Proofs.YtbkchepelhkjlaaGreat
open Go.RowKit
set_option linter.unusedVariables false
theorem ccells_append : ∀ a b : List Con, ccells (a ++ b) = ccells a ++ ccells b
 | [], b => rfl
 | q :: t, b => by rw [List.cons_append, ccells, ccells, ccells_append t b, List.append_assoc]
theorem ccells_take (l : List Con) (i : Nat) (h : i ≤ l.length) : (ccells l).take (i * 5) = ccells (l.take i) := by
 have e : ccells l = ccells (l.take i) ++ ccells (l.drop i) := by rw [← ccells_append, List.take_append_drop]
 have hl : (ccells (l.take i)).length = i * 5 := by rw [ccells_len, List.length_take, Nat.min_eq_left h]
 rw [e, ← hl, List.take_left]
theorem ccells_drop (l : List Con) (i : Nat) (h : i ≤ l.length) : (ccells l).drop (i * 5) = ccells (l.drop i) := by
 have e : ccells l = ccells (l.take i) ++ ccells (l.drop i) := by rw [← ccells_append, List.take_append_drop]
 have hl : (ccells (l.take i)).length = i * 5 := by rw [ccells_len, List.length_take, Nat.min_eq_left h]
 rw [e, ← hl, List.drop_left]
/-- one is taken out: what is behind it is moved up -/
theorem csplice (l : List Con) (R : List Value) (i : Nat) (h : i < l.length) : ∃ R', splice (ccells l ++ R) (i * 5) (ccells (l.drop (i + 1))) = ccells (l.eraseIdx i) ++ R' ∧ (ccells (l.eraseIdx i) ++ R').length = (ccells l ++ R).length := by
 have hl := ccells_len l
 have hd := ccells_len (l.drop (i + 1))
 rw [List.length_drop] at hd
 refine ⟨(ccells l ++ R).drop (i * 5 + (ccells (l.drop (i + 1))).length), ?_, ?_⟩
 ·rw [splice, List.take_append_of_le_length (by omega), ccells_take l i (by omega), ← List.append_assoc, ← ccells_append, List.eraseIdx_eq_take_drop_succ]
 ·rw [List.length_append, List.length_drop, ccells_len, List.length_append, List.length_eraseIdx_of_lt h]
  have : (l.length - (i + 1)) * 5 = l.length * 5 - (i + 1) * 5 := Nat.sub_mul _ _ _
  omega
theorem Lay.rowC {w : World} {g M : Nat} {l : List Con} (h : Lay w 70 g M (ccells l)) : ConRow w (some ⟨g, 0, none⟩) l.length l := by
 refine ⟨rfl, .inr ⟨g, 0, rfl, fun i hi => ?_⟩⟩
 obtain ⟨a, b, c, d, e⟩ := ccells_at l i hi
 unfold ConAt
 simp only [Nat.zero_add]
 exact ⟨h.cell a, h.cell b, h.cell c, h.cell d, h.cell e⟩
/-- block g + 1 is a list from which some are taken: what stays stands in block g, what is gone in memory of its own behind both -/
def TakC (w : World) (g M : Nat) (l gl : List Con) : Prop := ∃ v, Blk w (g + 1) #[.slice (some ⟨g, 0, none⟩) l.length l.length, v] 155 ∧ Lay w 70 g M (ccells l) ∧ COwn (g + 2) w v gl
theorem TakC.below {w w' : World} {g M : Nat} {l gl : List Con} (h : TakC w g M l gl) (hb : Below w.heap.size w w') : TakC w' g M l gl := let ⟨v, a, b, c⟩ := h; ⟨v, a.below hb, b.below hb, cown_below c hb⟩

set_option maxRecDepth 100000 in
set_option maxHeartbeats 2000000 in
theorem takingFromC_any (ao : Option Addr) (n c : Nat) (l : List Con) (w : World) (h : ConRow w ao n l) (hn : n ≤ 1048576) :
  Calls Tryz.prog 138 #[.slice ao n c] w fun e w' => e = .returned (.pointer (some ⟨w.heap.size + 1, 0, none⟩)) ∧ TakC w' w.heap.size (n * 5) l [] ∧ w'.heap.size = w.heap.size + 2 ∧ Below w.heap.size w w' := by
 obtain ⟨i0, hi, hz0, hz1, hz2⟩ := info_parts Tryz.infoCont
 have hsz : (Tryz.prog.info? 70).map (·.size) = some 5 := by rw [hi]; exact congrArg some hz1
 have hmk := make_cons n hn w
 obtain ⟨A, hA⟩ : ∃ A : Array Value, madeCells (conv ⟨0, 0, [], 0, 0⟩).cells (n * 5) = A := ⟨_, rfl⟩
 have hAs : A.size = n * 5 := by rw [← hA]; simp [madeCells]
 rw [hA] at hmk
 have hb0 := below_al (Below.refl _ w) (.cells A 70)
 have HB0 := hide hb0
 have hg0 : (w.alloc (.cells A 70)).heap[w.heap.size]? = some (.cells A.toList.toArray 70 (0, 0)) := by
  show (w.heap.push _)[w.heap.size]? = _
  simp
 have hcl : (ccells l).length = n * 5 := by rw [ccells_len, h.1]
 have HPS := hide (show n ≠ 0 → ∃ ad, ao = some ad ∧ ∀ j v, (ccells l)[j]? = some v → (w.alloc (.cells A 70)).cell? (ad.add j) = some v from fun hz => by
  rcases h.2 with e | ⟨b, off, e, _⟩
  ·exact absurd e hz
  ·subst e
   refine ⟨_, rfl, fun j v hv => ?_⟩
   rw [Lib.add_plain]
   exact ccells_row (h.below hb0) j v hv)
 have HLN := hide h.1
 have HG0 := hide hg0
 have HONE := hide (ccells_one l)
 have HCL := hide hcl
 have HAS := hide hAs
 clear h hA hb0 hg0 hcl hAs
 go_enter Tryz.func138, Tryz.ntmps138
 go_upto_region 2 with fail
 go_wp2_with (refine wpList_copy_many rfl (.tmp 7) (.tmp 8) 27 27 rfl 70 5 Tryz.underlying27 hsz _ _ _ _ _ _ rfl rfl w.heap.size 0 A.toList 70 (unhide HG0) (ccells l) n (Nat.min_self n).symm (unhide HCL) (fun hz => ⟨rfl, unhide HPS hz⟩) (by have := unhide HCL; have := unhide HAS; simp; omega) (unhide HONE) ?_)
 intro w1 HG1 HM1 hw1
 have hs1 : w1.heap.size = w.heap.size + 1 := by simpa using hw1
 have HL1 := hide (show Lay w1 70 w.heap.size (n * 5) (ccells l) from ⟨[], by
  have := unhide HG1
  rw [splice, List.take_zero, List.nil_append, Nat.zero_add] at this
  rw [List.drop_of_length_le (by have := unhide HCL; have := unhide HAS; simp; omega)] at this
  exact this, by have := unhide HCL; simpa using this⟩)
 have HB1 := hide (show Below w.heap.size w w1 from (unhide HB0).trans ((unhide HM1).below (fun k hk => by omega) (by rw [al_size]; omega)))
 clear HG1 HM1 hw1 HB0 HG0 HPS hmk
 go_wp2
 go_ret
 refine ⟨rfl, ⟨_, ?_, (unhide HL1).below (below_al (Below.refl _ w1) _), cown_nil _ _⟩, by rw [al_size, hs1], below_al (unhide HB1) _⟩
 have := blk_new w1 #[.slice (some ⟨w.heap.size, 0, none⟩) l.length l.length, .slice none 0 0] 155
 rw [hs1] at this
 rw [← unhide HLN] at this ⊢
 exact this

theorem Mks.grown {g : Nat} {w w' : World} (h : Mks (fun k => k = g) w w') : w.grownBy w' (some g) := ⟨h.os, h.tape, h.output, h.size, fun k hk hne => h.block k hk (fun e => hne (by rw [e]))⟩
theorem Mks.blk1 {g k : Nat} {a w : World} {arr : Array Value} {t : TypeId} (h : Mks (fun k => k = g) a w) (hb : Blk a k arr t) (hk : k ≠ g) : Blk w k arr t := h.blk hb hk
theorem cown_mks {B g : Nat} {w w' : World} {v : Value} {l : List Con} (hm : Mks (fun k => k = g) w w') (h : COwn B w v l) (hg : g < B) : COwn B w' v l :=
 World.ownsRow.kept h hm.grown (.inr (fun e => by have := (World.ownsRow.lt h g e).1; omega))

set_option maxRecDepth 100000 in
set_option maxHeartbeats 4000000 in
theorem takeC_any (g M a : Nat) (l gl : List Con) (w : World) (h : TakC w g M l gl) (ha : a < l.length) (hl : l.length ≤ 1048576) (hgl : gl.length ≤ 1048576) :
  Calls Tryz.prog 168 #[.pointer (some ⟨g + 1, 0, none⟩), .int .i64 (a : Int)] w fun e w' => e = .returned (conv l[a]) ∧ TakC w' g M (l.eraseIdx a) (gl ++ [l[a]]) ∧ Below g w w' := by
 obtain ⟨i0, hi, hz0, hz1, hz2⟩ := info_parts Tryz.infoCont
 have hsz : (Tryz.prog.info? 70).map (·.size) = some 5 := by rw [hi]; exact congrArg some hz1
 obtain ⟨v, hbk, hly, how⟩ := h
 obtain ⟨n, hn⟩ : ∃ n, l.length = n := ⟨_, rfl⟩
 have c0 := hly.cell (ccells_at l a ha).1
 have c1 := hly.cell (ccells_at l a ha).2.1
 have c2 := hly.cell (ccells_at l a ha).2.2.1
 have c3 := hly.cell (ccells_at l a ha).2.2.2.1
 have c4 := hly.cell (ccells_at l a ha).2.2.2.2
 obtain ⟨vo, vc, rfl, hvr, hvc, hvg⟩ := cown_row how
 obtain ⟨m, hm⟩ : ∃ m, gl.length = m := ⟨_, rfl⟩
 obtain ⟨⟨id, ap, nd, me, cp⟩, hq⟩ : ∃ q, l[a] = q := ⟨_, rfl⟩
 have HQ := hide hq
 have HM := hide hm
 have HN := hide hn
 rw [hq] at c0 c1 c2 c3 c4 ⊢
 rw [hm] at hbk how hgl hvc
 rw [hn] at hbk hl ha
 simp only at c0 c1 c2 c3 c4
 have hb0 := below_al (below_al (Below.refl _ w) (.cells #[.int .i64 0, .int .i64 0, .string { data := #[] }, .int .i64 0, .int .i64 0] 70)) (.cells #[.int .i64 id, .int .i64 ap, .string (bs nd), .int .i64 me, .int .i64 cp] 70)
 have HB0 := hide hb0
 have Z0 := hide ((blk_new w #[.int .i64 0, .int .i64 0, .string { data := #[] }, .int .i64 0, .int .i64 0] 70).al (.cells #[.int .i64 id, .int .i64 ap, .string (bs nd), .int .i64 me, .int .i64 cp] 70))
 have Z1 := hide (show Blk _ (w.heap.size + 1) #[.int .i64 id, .int .i64 ap, .string (bs nd), .int .i64 me, .int .i64 cp] 70 by have := blk_new (w.alloc (.cells #[.int .i64 0, .int .i64 0, .string { data := #[] }, .int .i64 0, .int .i64 0] 70)) #[.int .i64 id, .int .i64 ap, .string (bs nd), .int .i64 me, .int .i64 cp] 70; rwa [al_size] at this)
 have d0 := hbk.at 0
 have d1 := hbk.at 1
 simp at d0 d1
 have K0 := hide (hbk.below hb0)
 have L0 := hide (hly.below hb0)
 have O0 := hide (cown_below how hb0)
 have hgs : g + 1 < w.heap.size := hbk.lt
 have HVO := hide (fun k hk => World.ownsRow.lt how k hk)
 have hgs0 : g < w.heap.size := by omega
 have a0 : (0 : Int) ≤ a := by omega
 have a1 : (a : Int) < n := by omega
 clear hb0 hbk hly how hvr hvg hq hm hn
 go_enter Tryz.func168, Tryz.ntmps168
 go_upto_region 2 with fail
 obtain ⟨W, hW⟩ : ∃ W, (w.alloc (.cells #[.int .i64 0, .int .i64 0, .string { data := #[] }, .int .i64 0, .int .i64 0] 70)).alloc (.cells #[.int .i64 id, .int .i64 ap, .string (bs nd), .int .i64 me, .int .i64 cp] 70) = W := ⟨_, rfl⟩
 rw [hW] at HB0 Z0 Z1 K0 L0 O0 ⊢
 clear hW d0 d1 c0 c1 c2 c3 c4
 have d0 := (unhide K0).at 0
 simp at d0
 obtain ⟨R, hR1, hR2⟩ := unhide L0
 have HR1 := hide hR1
 have HR2 := hide hR2
 have hcl := ccells_len l
 have hdl := ccells_len (l.drop (a + 1))
 rw [List.length_drop] at hdl
 rw [unhide HN] at hcl hdl
 have hRl : (ccells l ++ R).length = n * 5 + R.length := by rw [List.length_append, hcl]
 obtain ⟨CS, hCS⟩ : ∃ c, ccells (l.drop (a + 1)) = c := ⟨_, rfl⟩
 have HCS := hide hCS
 rw [hCS] at hdl
 have HDL := hide hdl
 have HRL := hide hRl
 have H1C := hide (show ∀ v ∈ CS, v.oneCell' = true by rw [← hCS]; exact ccells_one _)
 have HSRC := hide (show ∀ j v, CS[j]? = some v → ∀ wx : World, wx.heap[g]? = W.heap[g]? → wx.cell? ⟨g, (a + 1) * 5 + j, none⟩ = some v from fun j v hv wx hx => by
  have e : (ccells l)[(a + 1) * 5 + j]? = some v := by rw [← hCS, ← ccells_drop l (a + 1) (by have := unhide HN; omega), List.getElem?_drop] at hv; exact hv
  have := (unhide L0).cell e
  rw [← this]
  exact World.cell?_of_block (w := W) (a := ⟨g, (a + 1) * 5 + j, none⟩) hx)
 obtain ⟨LL, hLL⟩ : ∃ L, ccells l ++ R = L := ⟨_, rfl⟩
 have HLL := hide hLL
 rw [hLL] at HR1 HRL
 clear hR1 hR2 hcl hdl hRl hCS hLL
 have hle : a ≤ n := by omega
 have hne : ¬ n = a := by omega
 by_cases hlast : a + 1 = n
 ·have hlast' : (a : Int) + 1 = n := by omega
  have hw1 : IntKind.i64.wrap (n : Int) = n := by rw [IntKind.wrap_i64]; omega
  go_region_law (refine step_copy_many rfl (.tmp 19) (.tmp 26) 27 27 rfl 70 5 Tryz.underlying27 hsz _ _ _ _ _ _ rfl rfl g (a * 5) LL 70 (unhide HR1) CS (n - (a + 1)) (by show _ = min _ _; omega) (by have := unhide HDL; omega) (fun hz => absurd hlast (by omega)) (by have := unhide HRL; have := unhide HDL; omega) (unhide H1C) ?_; intro w2 HG2 HM2 hs2)
  all_goals
   have L2 := hide (show Lay w2 70 g M (ccells (l.eraseIdx a)) from by
    obtain ⟨R', e1, e2⟩ := csplice l R a (by have := unhide HN; omega)
    refine ⟨R', ?_, by rw [e2]; exact unhide HR2⟩
    have := unhide HG2
    rw [← unhide HLL, ← unhide HCS, e1] at this
    exact this)
   have K2 := hide ((unhide HM2).blk1 (unhide K0) (by omega))
   have Z02 := hide ((unhide HM2).blk1 (unhide Z0) (by omega))
   have Z12 := hide ((unhide HM2).blk1 (unhide Z1) (by omega))
   have O2 := hide (cown_mks (B := g + 2) (g := g) (unhide HM2) (unhide O0) (by omega))
   have hgW : g ≤ W.heap.size := Nat.le_of_lt (unhide L0).lt
   have B2 := hide (show Below g w w2 from (((unhide HB0).mono (by omega)).drew).trans ((unhide HM2).below (B := g) (fun k (hk : k = g) => by omega) hgW))
   clear hgW
   have hz2 : w.heap.size + 1 < w2.heap.size := (unhide Z12).lt
   have k0 := (unhide K2).at 0
   have kf := (unhide K2).f 0
   simp at k0
   have hn1 : ((n : Int) - 1).toNat = n - 1 := by omega
   have hn2 : (0 : Int) ≤ (n : Int) - 1 := by omega
   clear HG2 HM2 hs2 K0 Z0 Z1 O0 HB0 d0
   go_upto_region 5 with fail
   have L3 := hide ((unhide L2).other (g + 1) 0 (.slice (some ⟨g, 0, none⟩) (n - 1) (n - 1)) (by omega))
   have K3 := hide (show Blk (w2.setCell ⟨g + 1, 0, none⟩ (.slice (some ⟨g, 0, none⟩) (n - 1) (n - 1))) (g + 1) #[.slice (some ⟨g, 0, none⟩) (n - 1) (n - 1), .slice vo m vc] 155 from (unhide K2).set 0 _)
   have Z03 := hide ((unhide Z02).other (g + 1) 0 (.slice (some ⟨g, 0, none⟩) (n - 1) (n - 1)) (by omega))
   have Z13 := hide ((unhide Z12).other (g + 1) 0 (.slice (some ⟨g, 0, none⟩) (n - 1) (n - 1)) (by omega))
   have O3 := hide (cown_other (unhide O2) (g + 1) 0 (.slice (some ⟨g, 0, none⟩) (n - 1) (n - 1)) (by omega))
   have B3 := hide ((unhide B2).setCell (p := ⟨g + 1, 0, none⟩) (by simp) (.slice (some ⟨g, 0, none⟩) (n - 1) (n - 1)))
   generalize w2.setCell ⟨g + 1, 0, none⟩ (.slice (some ⟨g, 0, none⟩) (n - 1) (n - 1)) = w3 at L3 K3 Z03 Z13 O3 B3 ⊢
   have O3' := hide (show w3.ownsRow (g + 2) 70 5 (.slice vo m vc) m (ccells gl) by have := unhide O3; unfold COwn at this; rwa [unhide HM] at this)
   have hz3 : w.heap.size + 1 < w3.heap.size := (unhide Z13).lt
   have hgz : g + 1 < w3.heap.size := by omega
   have k1 := (unhide K3).at 1
   have q0 := (unhide Z13).at 0
   have q1 := (unhide Z13).at 1
   have q2 := (unhide Z13).at 2
   have q3 := (unhide Z13).at 3
   have q4 := (unhide Z13).at 4
   simp at k1 q0 q1 q2 q3 q4
   clear k0 kf K2 Z02 Z12 O2 B2 L2 hz2
   go_region_law (refine step_append_lies _ rfl (.tmp 48) (.tmp 50) 27 rfl (g + 2) 70 i0 (.agg #[.int .i64 0, .int .i64 0, .string ByteArray.empty, .int .i64 0, .int .i64 0]) 5 48 Tryz.underlying27 hi hz0 hz1 hz2 rfl (by decide) (.slice vo m vc) m (ccells gl) rfl (World.ownsRow.alloc (unhide O3') _) ⟨w3.heap.size, 0, none⟩ 1 1 (ccell ⟨id, ap, nd, me, cp⟩) rfl rfl (World.news_of_block (blk_new _ _ _)) (by intro u hu; simp at hu; rcases hu with rfl | rfl | rfl | rfl | rfl <;> rfl) (by decide) (by unfold maxLen; omega) (by omega) (by simp; omega) _ rfl ?_; intro go gc w4 hown hgrow hgo _; have HGO := hide hgo; have O4 := hide hown; have G4 := hide hgrow; have K4 := hide (show Blk w4 (g + 1) _ 155 from (hgrow.block (g + 1) (by simp; omega) (fun e => by have := (World.ownsRow.lt (unhide O3') (g + 1) e.symm).1; omega)).trans ((unhide K3).al _)); have k4 := (unhide K4).at 1; have f4 := (unhide K4).f 1; simp at k4; clear hown hgrow hgo)
   all_goals
    have hgo : go < w.heap.size ∨ w.heap.size + 1 < go := by
     rcases unhide HGO with e | e
     ·exact .inl (unhide HVO go e).2
     ·right
      rw [e]
      simp
      omega
    have K5 := hide (show Blk (w4.setCell ⟨g + 1, 1, none⟩ (.slice (some ⟨go, 0, none⟩) (m + 1) gc)) (g + 1) #[.slice (some ⟨g, 0, none⟩) (n - 1) (n - 1), .slice (some ⟨go, 0, none⟩) (m + 1) gc] 155 from (unhide K4).set 1 _)
    have far : ∀ (k : Nat) (arr : Array Value) (t : TypeId), Blk w3 k arr t → (k < g + 2 ∨ w.heap.size ≤ k) → Blk w4 k arr t := fun k arr t hk hn => ((unhide G4).block k (by have := hk.lt; simp; omega) (fun e => by have := unhide HVO k e.symm; omega)).trans (hk.al _)
    have Z05 := hide ((far _ _ _ (unhide Z03) (.inr (Nat.le_refl _))).other (g + 1) 1 (.slice (some ⟨go, 0, none⟩) (m + 1) gc) (by omega))
    have Z15 := hide ((far _ _ _ (unhide Z13) (.inr (by omega))).other (g + 1) 1 (.slice (some ⟨go, 0, none⟩) (m + 1) gc) (by omega))
    have L5 := hide ((show Lay w4 70 g M (ccells (l.eraseIdx a)) from ((unhide L3).below (below_al (Below.refl _ w3) (.cells #[.int .i64 id, .int .i64 ap, .string (bs nd), .int .i64 me, .int .i64 cp] 70))).of_block ((unhide G4).block g (by have := (unhide L3).lt; simp; omega) (fun e => by have := (unhide HVO g e.symm).1; omega))).other (g + 1) 1 (.slice (some ⟨go, 0, none⟩) (m + 1) gc) (by omega))
    have O5 := hide (show COwn (g + 2) (w4.setCell ⟨g + 1, 1, none⟩ (.slice (some ⟨go, 0, none⟩) (m + 1) gc)) (.slice (some ⟨go, 0, none⟩) (m + 1) gc) (gl ++ [⟨id, ap, nd, me, cp⟩]) from cown_other (by unfold COwn; rw [ccells_app, List.length_append, unhide HM]; exact unhide O4) (g + 1) 1 _ (by omega))
    have B5 := hide (show Below g w (w4.setCell ⟨g + 1, 1, none⟩ (.slice (some ⟨go, 0, none⟩) (m + 1) gc)) from ((((unhide B3).trans ((below_al (Below.refl _ w3) (.cells #[.int .i64 id, .int .i64 ap, .string (bs nd), .int .i64 me, .int .i64 cp] 70)).mono (by omega))).drew).grown (unhide G4) (by simp; omega) (fun k e => by have := (unhide HVO k e).1; omega)).setCell (p := ⟨g + 1, 1, none⟩) (by simp) _)
    clear far
    generalize w4.setCell ⟨g + 1, 1, none⟩ (.slice (some ⟨go, 0, none⟩) (m + 1) gc) = w5 at K5 Z05 Z15 L5 O5 B5 ⊢
    have s0 := (unhide Z15).at 0; have s1 := (unhide Z15).at 1; have s2 := (unhide Z15).at 2; have s3 := (unhide Z15).at 3; have s4 := (unhide Z15).at 4
    have r0 := (unhide Z05).at 0; have r1 := (unhide Z05).at 1; have r2 := (unhide Z05).at 2; have r3 := (unhide Z05).at 3; have r4 := (unhide Z05).at 4
    have u0 := (unhide Z05).f 0; have u1 := (unhide Z05).f 1; have u2 := (unhide Z05).f 2; have u3 := (unhide Z05).f 3; have u4 := (unhide Z05).f 4
    simp at s0 s1 s2 s3 s4 r0 r1 r2 r3 r4
    clear K3 Z03 Z13 O3 O3' B3 L3 k1 q0 q1 q2 q3 q4 k4 f4 K4 G4 O4 HGO
    go_wp2
    have R9 := hide (show Blk (((((w5.setCell ⟨w.heap.size, 0, none⟩ (.int .i64 id)).setCell ⟨w.heap.size, 1, none⟩ (.int .i64 ap)).setCell ⟨w.heap.size, 2, none⟩ (.string (bs nd))).setCell ⟨w.heap.size, 3, none⟩ (.int .i64 me)).setCell ⟨w.heap.size, 4, none⟩ (.int .i64 cp)) w.heap.size #[.int .i64 id, .int .i64 ap, .string (bs nd), .int .i64 me, .int .i64 cp] 70 from ((((((unhide Z05).set 0 (.int .i64 id)).set 1 (.int .i64 ap)).set 2 (.string (bs nd))).set 3 (.int .i64 me)).set 4 (.int .i64 cp)))
    have K9 := hide (((((((unhide K5).other w.heap.size 0 (.int .i64 id) (by omega)).other w.heap.size 1 (.int .i64 ap) (by omega)).other w.heap.size 2 (.string (bs nd)) (by omega)).other w.heap.size 3 (.int .i64 me) (by omega)).other w.heap.size 4 (.int .i64 cp) (by omega)))
    have L9 := hide (((((((unhide L5).other w.heap.size 0 (.int .i64 id) (by omega)).other w.heap.size 1 (.int .i64 ap) (by omega)).other w.heap.size 2 (.string (bs nd)) (by omega)).other w.heap.size 3 (.int .i64 me) (by omega)).other w.heap.size 4 (.int .i64 cp) (by omega)))
    have O9 := hide (show COwn (g + 2) (((((w5.setCell ⟨w.heap.size, 0, none⟩ (.int .i64 id)).setCell ⟨w.heap.size, 1, none⟩ (.int .i64 ap)).setCell ⟨w.heap.size, 2, none⟩ (.string (bs nd))).setCell ⟨w.heap.size, 3, none⟩ (.int .i64 me)).setCell ⟨w.heap.size, 4, none⟩ (.int .i64 cp)) (.slice (some ⟨go, 0, none⟩) (m + 1) gc) (gl ++ [⟨id, ap, nd, me, cp⟩]) from (ownsRow_setCell_other (ownsRow_setCell_other (ownsRow_setCell_other (ownsRow_setCell_other (ownsRow_setCell_other (unhide O5) (a := ⟨w.heap.size, 0, none⟩) (by simp [Value.ownBlock]; omega) (.int .i64 id)) (a := ⟨w.heap.size, 1, none⟩) (by simp [Value.ownBlock]; omega) (.int .i64 ap)) (a := ⟨w.heap.size, 2, none⟩) (by simp [Value.ownBlock]; omega) (.string (bs nd))) (a := ⟨w.heap.size, 3, none⟩) (by simp [Value.ownBlock]; omega) (.int .i64 me)) (a := ⟨w.heap.size, 4, none⟩) (by simp [Value.ownBlock]; omega) (.int .i64 cp)))
    have B9 := hide (((((((unhide B5).setCell (p := ⟨w.heap.size, 0, none⟩) (by show g ≤ w.heap.size; omega) (.int .i64 id)).setCell (p := ⟨w.heap.size, 1, none⟩) (by show g ≤ w.heap.size; omega) (.int .i64 ap)).setCell (p := ⟨w.heap.size, 2, none⟩) (by show g ≤ w.heap.size; omega) (.string (bs nd))).setCell (p := ⟨w.heap.size, 3, none⟩) (by show g ≤ w.heap.size; omega) (.int .i64 me)).setCell (p := ⟨w.heap.size, 4, none⟩) (by show g ≤ w.heap.size; omega) (.int .i64 cp)))
    generalize (((((w5.setCell ⟨w.heap.size, 0, none⟩ (.int .i64 id)).setCell ⟨w.heap.size, 1, none⟩ (.int .i64 ap)).setCell ⟨w.heap.size, 2, none⟩ (.string (bs nd))).setCell ⟨w.heap.size, 3, none⟩ (.int .i64 me)).setCell ⟨w.heap.size, 4, none⟩ (.int .i64 cp)) = W9 at R9 K9 L9 O9 B9 ⊢
    have z0 := (unhide R9).at 0; have z1 := (unhide R9).at 1; have z2 := (unhide R9).at 2; have z3 := (unhide R9).at 3; have z4 := (unhide R9).at 4
    simp at z0 z1 z2 z3 z4
    refine bodyPost_ret (v := .agg #[.int .i64 id, .int .i64 ap, .string (bs nd), .int .i64 me, .int .i64 cp]) (by simp [results, Tryz.results168, go_sem, z0, z1, z2, z3, z4]) rfl ⟨rfl, ⟨_, ?_, unhide L9, unhide O9⟩, unhide B9⟩
    rw [List.length_eraseIdx_of_lt (by have := unhide HN; omega), unhide HN]
    exact unhide K9
 ·have hw1 : IntKind.i64.wrap ((a : Int) + 1) = (a : Int) + 1 := by rw [IntKind.wrap_i64]; omega
  have hle2 : (a : Int) + 1 ≤ n := by omega
  have hle3 : a + 1 ≤ n := by omega
  have hne2 : ¬ n = a + 1 := by omega
  have htn : ((a : Int) + 1).toNat = a + 1 := by omega
  have ha2 : (0 : Int) ≤ (a : Int) + 1 := by omega
  go_region_law (refine step_copy_many rfl (.tmp 19) (.tmp 26) 27 27 rfl 70 5 Tryz.underlying27 hsz _ _ _ _ _ _ rfl rfl g (a * 5) LL 70 (unhide HR1) CS (n - (a + 1)) (by show _ = min _ _; omega) (by have := unhide HDL; omega) (fun hz => ⟨rfl, _, rfl, fun j v hv => by rw [Lib.add_plain]; exact unhide HSRC j v hv _ rfl⟩) (by have := unhide HRL; have := unhide HDL; omega) (unhide H1C) ?_; intro w2 HG2 HM2 hs2)
  all_goals
   have L2 := hide (show Lay w2 70 g M (ccells (l.eraseIdx a)) from by
    obtain ⟨R', e1, e2⟩ := csplice l R a (by have := unhide HN; omega)
    refine ⟨R', ?_, by rw [e2]; exact unhide HR2⟩
    have := unhide HG2
    rw [← unhide HLL, ← unhide HCS, e1] at this
    exact this)
   have K2 := hide ((unhide HM2).blk1 (unhide K0) (by omega))
   have Z02 := hide ((unhide HM2).blk1 (unhide Z0) (by omega))
   have Z12 := hide ((unhide HM2).blk1 (unhide Z1) (by omega))
   have O2 := hide (cown_mks (B := g + 2) (g := g) (unhide HM2) (unhide O0) (by omega))
   have hgW : g ≤ W.heap.size := Nat.le_of_lt (unhide L0).lt
   have B2 := hide (show Below g w w2 from (((unhide HB0).mono (by omega)).drew).trans ((unhide HM2).below (B := g) (fun k (hk : k = g) => by omega) hgW))
   clear hgW
   have hz2 : w.heap.size + 1 < w2.heap.size := (unhide Z12).lt
   have k0 := (unhide K2).at 0
   have kf := (unhide K2).f 0
   simp at k0
   have hn1 : ((n : Int) - 1).toNat = n - 1 := by omega
   have hn2 : (0 : Int) ≤ (n : Int) - 1 := by omega
   clear HG2 HM2 hs2 K0 Z0 Z1 O0 HB0 d0
   go_upto_region 5 with fail
   have L3 := hide ((unhide L2).other (g + 1) 0 (.slice (some ⟨g, 0, none⟩) (n - 1) (n - 1)) (by omega))
   have K3 := hide (show Blk (w2.setCell ⟨g + 1, 0, none⟩ (.slice (some ⟨g, 0, none⟩) (n - 1) (n - 1))) (g + 1) #[.slice (some ⟨g, 0, none⟩) (n - 1) (n - 1), .slice vo m vc] 155 from (unhide K2).set 0 _)
   have Z03 := hide ((unhide Z02).other (g + 1) 0 (.slice (some ⟨g, 0, none⟩) (n - 1) (n - 1)) (by omega))
   have Z13 := hide ((unhide Z12).other (g + 1) 0 (.slice (some ⟨g, 0, none⟩) (n - 1) (n - 1)) (by omega))
   have O3 := hide (cown_other (unhide O2) (g + 1) 0 (.slice (some ⟨g, 0, none⟩) (n - 1) (n - 1)) (by omega))
   have B3 := hide ((unhide B2).setCell (p := ⟨g + 1, 0, none⟩) (by simp) (.slice (some ⟨g, 0, none⟩) (n - 1) (n - 1)))
   generalize w2.setCell ⟨g + 1, 0, none⟩ (.slice (some ⟨g, 0, none⟩) (n - 1) (n - 1)) = w3 at L3 K3 Z03 Z13 O3 B3 ⊢
   have O3' := hide (show w3.ownsRow (g + 2) 70 5 (.slice vo m vc) m (ccells gl) by have := unhide O3; unfold COwn at this; rwa [unhide HM] at this)
   have hz3 : w.heap.size + 1 < w3.heap.size := (unhide Z13).lt
   have hgz : g + 1 < w3.heap.size := by omega
   have k1 := (unhide K3).at 1
   have q0 := (unhide Z13).at 0
   have q1 := (unhide Z13).at 1
   have q2 := (unhide Z13).at 2
   have q3 := (unhide Z13).at 3
   have q4 := (unhide Z13).at 4
   simp at k1 q0 q1 q2 q3 q4
   clear k0 kf K2 Z02 Z12 O2 B2 L2 hz2
   go_region_law (refine step_append_lies _ rfl (.tmp 48) (.tmp 50) 27 rfl (g + 2) 70 i0 (.agg #[.int .i64 0, .int .i64 0, .string ByteArray.empty, .int .i64 0, .int .i64 0]) 5 48 Tryz.underlying27 hi hz0 hz1 hz2 rfl (by decide) (.slice vo m vc) m (ccells gl) rfl (World.ownsRow.alloc (unhide O3') _) ⟨w3.heap.size, 0, none⟩ 1 1 (ccell ⟨id, ap, nd, me, cp⟩) rfl rfl (World.news_of_block (blk_new _ _ _)) (by intro u hu; simp at hu; rcases hu with rfl | rfl | rfl | rfl | rfl <;> rfl) (by decide) (by unfold maxLen; omega) (by omega) (by simp; omega) _ rfl ?_; intro go gc w4 hown hgrow hgo _; have HGO := hide hgo; have O4 := hide hown; have G4 := hide hgrow; have K4 := hide (show Blk w4 (g + 1) _ 155 from (hgrow.block (g + 1) (by simp; omega) (fun e => by have := (World.ownsRow.lt (unhide O3') (g + 1) e.symm).1; omega)).trans ((unhide K3).al _)); have k4 := (unhide K4).at 1; have f4 := (unhide K4).f 1; simp at k4; clear hown hgrow hgo)
   all_goals
    have hgo : go < w.heap.size ∨ w.heap.size + 1 < go := by
     rcases unhide HGO with e | e
     ·exact .inl (unhide HVO go e).2
     ·right
      rw [e]
      simp
      omega
    have K5 := hide (show Blk (w4.setCell ⟨g + 1, 1, none⟩ (.slice (some ⟨go, 0, none⟩) (m + 1) gc)) (g + 1) #[.slice (some ⟨g, 0, none⟩) (n - 1) (n - 1), .slice (some ⟨go, 0, none⟩) (m + 1) gc] 155 from (unhide K4).set 1 _)
    have far : ∀ (k : Nat) (arr : Array Value) (t : TypeId), Blk w3 k arr t → (k < g + 2 ∨ w.heap.size ≤ k) → Blk w4 k arr t := fun k arr t hk hn => ((unhide G4).block k (by have := hk.lt; simp; omega) (fun e => by have := unhide HVO k e.symm; omega)).trans (hk.al _)
    have Z05 := hide ((far _ _ _ (unhide Z03) (.inr (Nat.le_refl _))).other (g + 1) 1 (.slice (some ⟨go, 0, none⟩) (m + 1) gc) (by omega))
    have Z15 := hide ((far _ _ _ (unhide Z13) (.inr (by omega))).other (g + 1) 1 (.slice (some ⟨go, 0, none⟩) (m + 1) gc) (by omega))
    have L5 := hide ((show Lay w4 70 g M (ccells (l.eraseIdx a)) from ((unhide L3).below (below_al (Below.refl _ w3) (.cells #[.int .i64 id, .int .i64 ap, .string (bs nd), .int .i64 me, .int .i64 cp] 70))).of_block ((unhide G4).block g (by have := (unhide L3).lt; simp; omega) (fun e => by have := (unhide HVO g e.symm).1; omega))).other (g + 1) 1 (.slice (some ⟨go, 0, none⟩) (m + 1) gc) (by omega))
    have O5 := hide (show COwn (g + 2) (w4.setCell ⟨g + 1, 1, none⟩ (.slice (some ⟨go, 0, none⟩) (m + 1) gc)) (.slice (some ⟨go, 0, none⟩) (m + 1) gc) (gl ++ [⟨id, ap, nd, me, cp⟩]) from cown_other (by unfold COwn; rw [ccells_app, List.length_append, unhide HM]; exact unhide O4) (g + 1) 1 _ (by omega))
    have B5 := hide (show Below g w (w4.setCell ⟨g + 1, 1, none⟩ (.slice (some ⟨go, 0, none⟩) (m + 1) gc)) from ((((unhide B3).trans ((below_al (Below.refl _ w3) (.cells #[.int .i64 id, .int .i64 ap, .string (bs nd), .int .i64 me, .int .i64 cp] 70)).mono (by omega))).drew).grown (unhide G4) (by simp; omega) (fun k e => by have := (unhide HVO k e).1; omega)).setCell (p := ⟨g + 1, 1, none⟩) (by simp) _)
    clear far
    generalize w4.setCell ⟨g + 1, 1, none⟩ (.slice (some ⟨go, 0, none⟩) (m + 1) gc) = w5 at K5 Z05 Z15 L5 O5 B5 ⊢
    have s0 := (unhide Z15).at 0; have s1 := (unhide Z15).at 1; have s2 := (unhide Z15).at 2; have s3 := (unhide Z15).at 3; have s4 := (unhide Z15).at 4
    have r0 := (unhide Z05).at 0; have r1 := (unhide Z05).at 1; have r2 := (unhide Z05).at 2; have r3 := (unhide Z05).at 3; have r4 := (unhide Z05).at 4
    have u0 := (unhide Z05).f 0; have u1 := (unhide Z05).f 1; have u2 := (unhide Z05).f 2; have u3 := (unhide Z05).f 3; have u4 := (unhide Z05).f 4
    simp at s0 s1 s2 s3 s4 r0 r1 r2 r3 r4
    clear K3 Z03 Z13 O3 O3' B3 L3 k1 q0 q1 q2 q3 q4 k4 f4 K4 G4 O4 HGO
    go_wp2
    have R9 := hide (show Blk (((((w5.setCell ⟨w.heap.size, 0, none⟩ (.int .i64 id)).setCell ⟨w.heap.size, 1, none⟩ (.int .i64 ap)).setCell ⟨w.heap.size, 2, none⟩ (.string (bs nd))).setCell ⟨w.heap.size, 3, none⟩ (.int .i64 me)).setCell ⟨w.heap.size, 4, none⟩ (.int .i64 cp)) w.heap.size #[.int .i64 id, .int .i64 ap, .string (bs nd), .int .i64 me, .int .i64 cp] 70 from ((((((unhide Z05).set 0 (.int .i64 id)).set 1 (.int .i64 ap)).set 2 (.string (bs nd))).set 3 (.int .i64 me)).set 4 (.int .i64 cp)))
    have K9 := hide (((((((unhide K5).other w.heap.size 0 (.int .i64 id) (by omega)).other w.heap.size 1 (.int .i64 ap) (by omega)).other w.heap.size 2 (.string (bs nd)) (by omega)).other w.heap.size 3 (.int .i64 me) (by omega)).other w.heap.size 4 (.int .i64 cp) (by omega)))
    have L9 := hide (((((((unhide L5).other w.heap.size 0 (.int .i64 id) (by omega)).other w.heap.size 1 (.int .i64 ap) (by omega)).other w.heap.size 2 (.string (bs nd)) (by omega)).other w.heap.size 3 (.int .i64 me) (by omega)).other w.heap.size 4 (.int .i64 cp) (by omega)))
    have O9 := hide (show COwn (g + 2) (((((w5.setCell ⟨w.heap.size, 0, none⟩ (.int .i64 id)).setCell ⟨w.heap.size, 1, none⟩ (.int .i64 ap)).setCell ⟨w.heap.size, 2, none⟩ (.string (bs nd))).setCell ⟨w.heap.size, 3, none⟩ (.int .i64 me)).setCell ⟨w.heap.size, 4, none⟩ (.int .i64 cp)) (.slice (some ⟨go, 0, none⟩) (m + 1) gc) (gl ++ [⟨id, ap, nd, me, cp⟩]) from (ownsRow_setCell_other (ownsRow_setCell_other (ownsRow_setCell_other (ownsRow_setCell_other (ownsRow_setCell_other (unhide O5) (a := ⟨w.heap.size, 0, none⟩) (by simp [Value.ownBlock]; omega) (.int .i64 id)) (a := ⟨w.heap.size, 1, none⟩) (by simp [Value.ownBlock]; omega) (.int .i64 ap)) (a := ⟨w.heap.size, 2, none⟩) (by simp [Value.ownBlock]; omega) (.string (bs nd))) (a := ⟨w.heap.size, 3, none⟩) (by simp [Value.ownBlock]; omega) (.int .i64 me)) (a := ⟨w.heap.size, 4, none⟩) (by simp [Value.ownBlock]; omega) (.int .i64 cp)))
    have B9 := hide (((((((unhide B5).setCell (p := ⟨w.heap.size, 0, none⟩) (by show g ≤ w.heap.size; omega) (.int .i64 id)).setCell (p := ⟨w.heap.size, 1, none⟩) (by show g ≤ w.heap.size; omega) (.int .i64 ap)).setCell (p := ⟨w.heap.size, 2, none⟩) (by show g ≤ w.heap.size; omega) (.string (bs nd))).setCell (p := ⟨w.heap.size, 3, none⟩) (by show g ≤ w.heap.size; omega) (.int .i64 me)).setCell (p := ⟨w.heap.size, 4, none⟩) (by show g ≤ w.heap.size; omega) (.int .i64 cp)))
    generalize (((((w5.setCell ⟨w.heap.size, 0, none⟩ (.int .i64 id)).setCell ⟨w.heap.size, 1, none⟩ (.int .i64 ap)).setCell ⟨w.heap.size, 2, none⟩ (.string (bs nd))).setCell ⟨w.heap.size, 3, none⟩ (.int .i64 me)).setCell ⟨w.heap.size, 4, none⟩ (.int .i64 cp)) = W9 at R9 K9 L9 O9 B9 ⊢
    have z0 := (unhide R9).at 0; have z1 := (unhide R9).at 1; have z2 := (unhide R9).at 2; have z3 := (unhide R9).at 3; have z4 := (unhide R9).at 4
    simp at z0 z1 z2 z3 z4
    refine bodyPost_ret (v := .agg #[.int .i64 id, .int .i64 ap, .string (bs nd), .int .i64 me, .int .i64 cp]) (by simp [results, Tryz.results168, go_sem, z0, z1, z2, z3, z4]) rfl ⟨rfl, ⟨_, ?_, unhide L9, unhide O9⟩, unhide B9⟩
    rw [List.length_eraseIdx_of_lt (by have := unhide HN; omega), unhide HN]
    exact unhide K9

end Go.Proofs.YtbkchepelhkjlaaGreat
