/-
  Several texts of this claim in one: TkaC, TakM, TkaM (pack.py put them together); each says in its own remark what is proved.
-/
import Derived.Test.YtbkchepelhkjlaaGreatTakC
import Derived.Test.YtbkchepelhkjlaaGreatPackC
import Derived.Test.YtbkchepelhkjlaaGreatPackE
import Derived.Shelf.Abstract
import Derived.OneCell
import Derived.Deep.CutBlock
import Derived.Deep.CutRange
/-
 The program's generic list from which some are taken, of containers: takeAll (mktak.py wrote this); a walk over the dump.
-/
namespace Go.Proofs.YtbkchepelhkjlaaGreat
open Go.RowKit
set_option linter.unusedVariables false
/-- how many stay -/
def stLenC (w : World) (p : Nat) : Nat := match w.cell? ⟨p, 0, none⟩ with | some (.slice _ n _) => n | _ => 0
theorem stLenC_of {w : World} {p n c : Nat} {ao : Option Addr} (h : w.cell? ⟨p, 0, none⟩ = some (.slice ao n c)) : stLenC w p = n := by simp [stLenC, h]
theorem TakC.len {w : World} {g M : Nat} {l gl : List Con} (h : TakC w g M l gl) : stLenC w (g + 1) = l.length := by
 obtain ⟨v, hb, _⟩ := h
 have := hb.at 0
 simp at this
 exact stLenC_of this

set_option maxRecDepth 100000 in
set_option maxHeartbeats 4000000 in
theorem takeAllC_any (gf : Nat) (lb : Array Value) (eg : ∀ args w, (callFunc gf args).run Tryz.prog w = .ok (.enter gf args) w) (p : Con → Bool) (g M : Nat) (l gl : List Con) (w : World) (h : TakC w g M l gl) (hl : gl.length + l.length ≤ 1048576)
  (hp : ∀ wx q, q ∈ l → Below g w wx → Calls Tryz.prog gf (#[conv q] ++ lb) wx fun e w' => e = .returned (.bool (p q)) ∧ Below wx.heap.size wx w') :
  Calls Tryz.prog 139 #[.pointer (some ⟨g + 1, 0, none⟩), .func (.func gf) #[] lb] w fun e w' => e = .returned (.tuple #[]) ∧ TakC w' g M (l.filter (fun q => !p q)) (gl ++ l.filter p) ∧ Below g w w' := by
 have HT := hide h
 have HP := hide hp
 clear h hp
 go_enter Tryz.func139, Tryz.ntmps139
 go_wp2
 go_loopw [4] (fun i wr => ∃ (k : Nat), i = .int .i64 (k : Int) ∧ Hid (∃ d, d ≤ l.length ∧ k = ((l.take d).filter (fun q => !p q)).length ∧ TakC wr g M ((l.take d).filter (fun q => !p q) ++ l.drop d) (gl ++ (l.take d).filter p)) ∧ Hid (Below g w wr)) (fun i wr => stLenC wr (g + 1) - (intOf i).toNat)
 case atStart => exact ⟨0, rfl, hide ⟨0, Nat.zero_le _, by simp, by simpa using unhide HT⟩, hide (Below.refl _ _)⟩
 case round =>
  obtain ⟨k, rfl, HK, HB⟩ := hrel
  obtain ⟨d, hd, hk, ht⟩ := unhide HK
  have hkd : k ≤ d := by rw [hk]; refine Nat.le_trans (List.length_filter_le _ _) ?_; rw [List.length_take]; omega
  have hk2 : k ≤ 1048576 := by omega
  obtain ⟨v, hbk, hly, how⟩ := ht
  have c0 := (hbk.at 0).trans (show _ = some (Value.slice (some ⟨g, 0, none⟩) ((l.take d).filter (fun q => !p q) ++ l.drop d).length ((l.take d).filter (fun q => !p q) ++ l.drop d).length) from rfl)
  have hlen : ((l.take d).filter (fun q => !p q) ++ l.drop d).length = k + (l.length - d) := by rw [List.length_append, List.length_drop, ← hk]
  rw [hlen] at c0
  obtain ⟨n, hn⟩ : ∃ n, k + (l.length - d) = n := ⟨_, rfl⟩
  rw [hn] at c0
  have hm := stLenC_of c0
  by_cases hlt : d < l.length
  ·have hkn : (k : Int) < n := by omega
   have hel : k < ((l.take d).filter (fun q => !p q) ++ l.drop d).length := by omega
   have hq : ((l.take d).filter (fun q => !p q) ++ l.drop d)[k] = l[d] := by
    rw [List.getElem_append_right (by omega)]
    simp [← hk]
   obtain ⟨x0, x1, x2, x3, x4⟩ := ccells_at _ k hel
   rw [hq] at x0 x1 x2 x3 x4
   have e0 := hly.cell x0; have e1 := hly.cell x1; have e2 := hly.cell x2; have e3 := hly.cell x3; have e4 := hly.cell x4
   have CL := hide (unhide HP wr l[d] (List.getElem_mem hlt) (unhide HB))
   have hsp : l.take (d + 1) = l.take d ++ [l[d]] := by rw [List.take_succ_eq_append_getElem hlt]
   have hdr : l.drop d = l[d] :: l.drop (d + 1) := List.drop_eq_getElem_cons hlt
   have hgk : (gl ++ (l.take d).filter p).length ≤ 1048576 := by
    have := List.length_filter_le p (l.take d)
    rw [List.length_take] at this
    rw [List.length_append]
    omega
   have CT := hide (fun wx (hb : Below wr.heap.size wr wx) => takeC_any g M k _ _ wx (TakC.below ⟨v, hbk, hly, how⟩ hb) hel (by omega) hgk)
   rw [hq] at CT
   have HTK := hide (show TakC wr g M _ _ from ⟨v, hbk, hly, how⟩)
   obtain ⟨q, hqe⟩ : ∃ q, l[d] = q := ⟨_, rfl⟩
   rw [hqe] at e0 e1 e2 e3 e4 CL CT hsp hdr
   have HSP := hide hsp
   have HDR := hide hdr
   have HKK := hide hk
   have HLN := hide hlen
   have HNN := hide hn
   have HM := hide hm
   have hd' : d + 1 ≤ l.length := hlt
   obtain ⟨id, ap, nd, me, cp⟩ := q
   simp only at e0 e1 e2 e3 e4
   have k0 : (0 : Int) ≤ k := by omega
   clear hbk hly how x0 x1 x2 x3 x4 hq hqe hsp hdr hk hlen hn hm hgk HK hel
   cases hpq : p ⟨id, ap, nd, me, cp⟩ with
   | true =>
    rw [hpq] at CL
    have HPQ := hide hpq
    clear hpq
    go_wp2_with (go_at_fn gf; refine (unhide CL).mono ?_; rintro e w1 ⟨rfl, hb⟩; have HB1 := hide hb; clear hb CL)
    go_wp2_with fail
    refine (unhide CT _ (unhide HB1)).mono ?_
    rintro e w2 ⟨rfl, ht, hb⟩
    have HT2 := hide ht
    have hz : g ≤ wr.heap.size := by obtain ⟨v, hbk, _⟩ := unhide HTK; have := hbk.lt; omega
    have HB2 := hide (((unhide HB).trans ((unhide HB1).mono hz)).trans hb)
    clear ht hb CT
    go_wp2
    go_roundw
    case rel =>
     refine ⟨k, rfl, hide ⟨d + 1, hd', ?_, ?_⟩, HB2⟩
     ·rw [unhide HSP, List.filter_append, unhide HKK]
      simp [unhide HPQ]
     ·have := unhide HT2
      rw [unhide HDR, List.eraseIdx_append_of_length_le (by have := unhide HKK; omega)] at this
      rw [show k - ((l.take d).filter (fun q => !p q)).length = 0 by have := unhide HKK; omega, List.eraseIdx_cons_zero] at this
      rw [unhide HSP, List.filter_append, List.filter_append]
      simpa [unhide HPQ] using this
    case measure =>
     rw [(unhide HT2).len, unhide HM]
     have hh := unhide HLN
     have hnn := unhide HNN
     rw [List.length_eraseIdx_of_lt (by omega), hh]
     simp [intOf]
     omega
   | false =>
    rw [hpq] at CL
    have HPQ := hide hpq
    clear hpq
    go_wp2_with (go_at_fn gf; refine (unhide CL).mono ?_; rintro e w1 ⟨rfl, hb⟩; have HB1 := hide hb; clear hb CL)
    have hz : g ≤ wr.heap.size := by obtain ⟨v, hbk, _⟩ := unhide HTK; have := hbk.lt; omega
    go_wp2
    go_roundw
    case rel =>
     refine ⟨k + 1, by go_num, hide ⟨d + 1, hd', ?_, ?_⟩, hide ((unhide HB).trans ((unhide HB1).mono hz))⟩
     ·rw [unhide HSP, List.filter_append, List.length_append, ← unhide HKK]
      simp [unhide HPQ]
     ·have := (unhide HTK).below (unhide HB1)
      rw [unhide HDR] at this
      rw [unhide HSP, List.filter_append, List.filter_append]
      simpa [unhide HPQ] using this
    case measure =>
     rw [((unhide HTK).below (unhide HB1)).len, unhide HM, unhide HLN]
     have hnn := unhide HNN
     simp [intOf]
     omega
  ·have hkn : ¬ (k : Int) < n := by omega
   have HTK := hide (show TakC wr g M _ _ from ⟨v, hbk, hly, how⟩)
   have htk : l.take d = l := List.take_of_length_le (by omega)
   have hdr : l.drop d = [] := List.drop_of_length_le (by omega)
   rw [htk, hdr, List.append_nil] at HTK
   clear hbk hly how HK hk hlen htk hdr
   go_wp2
   go_end0
   exact ⟨rfl, unhide HTK, unhide HB⟩
end Go.Proofs.YtbkchepelhkjlaaGreat

/-
 The program's generic list from which some are taken, of machines: takingFrom, take, takeAll (mktak.py wrote this); walks over the dump.
-/
namespace Go.Proofs.YtbkchepelhkjlaaGreat
open Go.RowKit
set_option linter.unusedVariables false
theorem mcells_append : ∀ a b : List Mac, mcells (a ++ b) = mcells a ++ mcells b
 | [], b => rfl
 | q :: t, b => by rw [List.cons_append, mcells, mcells, mcells_append t b, List.append_assoc]
theorem mcells_take (l : List Mac) (i : Nat) (h : i ≤ l.length) : (mcells l).take (i * 4) = mcells (l.take i) := by
 have e : mcells l = mcells (l.take i) ++ mcells (l.drop i) := by rw [← mcells_append, List.take_append_drop]
 have hl : (mcells (l.take i)).length = i * 4 := by rw [mcells_len, List.length_take, Nat.min_eq_left h]
 rw [e, ← hl, List.take_left]
theorem mcells_drop (l : List Mac) (i : Nat) (h : i ≤ l.length) : (mcells l).drop (i * 4) = mcells (l.drop i) := by
 have e : mcells l = mcells (l.take i) ++ mcells (l.drop i) := by rw [← mcells_append, List.take_append_drop]
 have hl : (mcells (l.take i)).length = i * 4 := by rw [mcells_len, List.length_take, Nat.min_eq_left h]
 rw [e, ← hl, List.drop_left]
/-- one is taken out: what is behind it is moved up -/
theorem msplice (l : List Mac) (R : List Value) (i : Nat) (h : i < l.length) : ∃ R', splice (mcells l ++ R) (i * 4) (mcells (l.drop (i + 1))) = mcells (l.eraseIdx i) ++ R' ∧ (mcells (l.eraseIdx i) ++ R').length = (mcells l ++ R).length := by
 have hl := mcells_len l
 have hd := mcells_len (l.drop (i + 1))
 rw [List.length_drop] at hd
 refine ⟨(mcells l ++ R).drop (i * 4 + (mcells (l.drop (i + 1))).length), ?_, ?_⟩
 ·rw [splice, List.take_append_of_le_length (by omega), mcells_take l i (by omega), ← List.append_assoc, ← mcells_append, List.eraseIdx_eq_take_drop_succ]
 ·rw [List.length_append, List.length_drop, mcells_len, List.length_append, List.length_eraseIdx_of_lt h]
  have : (l.length - (i + 1)) * 4 = l.length * 4 - (i + 1) * 4 := Nat.sub_mul _ _ _
  omega
theorem Lay.rowM {w : World} {g M : Nat} {l : List Mac} (h : Lay w 56 g M (mcells l)) : MacRow w (some ⟨g, 0, none⟩) l.length l := by
 refine ⟨rfl, .inr ⟨g, 0, rfl, fun i hi => ?_⟩⟩
 obtain ⟨a, b, c, d⟩ := mcells_at l i hi
 unfold MacAt
 simp only [Nat.zero_add]
 exact ⟨h.cell a, h.cell b, h.cell c, h.cell d⟩
/-- block g + 1 is a list from which some are taken: what stays stands in block g, what is gone in memory of its own behind both -/
def TakM (w : World) (g M : Nat) (l gl : List Mac) : Prop := ∃ v, Blk w (g + 1) #[.slice (some ⟨g, 0, none⟩) l.length l.length, v] 167 ∧ Lay w 56 g M (mcells l) ∧ MOwn (g + 2) w v gl
theorem TakM.below {w w' : World} {g M : Nat} {l gl : List Mac} (h : TakM w g M l gl) (hb : Below w.heap.size w w') : TakM w' g M l gl := let ⟨v, a, b, c⟩ := h; ⟨v, a.below hb, b.below hb, mown_below c hb⟩

set_option maxRecDepth 100000 in
set_option maxHeartbeats 2000000 in
theorem takingFromM_any (ao : Option Addr) (n c : Nat) (l : List Mac) (w : World) (h : MacRow w ao n l) (hn : n ≤ 1048576) :
  Calls Tryz.prog 145 #[.slice ao n c] w fun e w' => e = .returned (.pointer (some ⟨w.heap.size + 1, 0, none⟩)) ∧ TakM w' w.heap.size (n * 4) l [] ∧ w'.heap.size = w.heap.size + 2 ∧ Below w.heap.size w w' := by
 obtain ⟨i0, hi, hz0, hz1, hz2⟩ := info_parts Tryz.infoMachine
 have hsz : (Tryz.prog.info? 56).map (·.size) = some 4 := by rw [hi]; exact congrArg some hz1
 have hmk := make_macs n hn w
 obtain ⟨A, hA⟩ : ∃ A : Array Value, madeCells (macv ⟨[], 0, 0, 0⟩).cells (n * 4) = A := ⟨_, rfl⟩
 have hAs : A.size = n * 4 := by rw [← hA]; simp [madeCells]
 rw [hA] at hmk
 have hb0 := below_al (Below.refl _ w) (.cells A 56)
 have HB0 := hide hb0
 have hg0 : (w.alloc (.cells A 56)).heap[w.heap.size]? = some (.cells A.toList.toArray 56 (0, 0)) := by
  show (w.heap.push _)[w.heap.size]? = _
  simp
 have hcl : (mcells l).length = n * 4 := by rw [mcells_len, h.1]
 have HPS := hide (show n ≠ 0 → ∃ ad, ao = some ad ∧ ∀ j v, (mcells l)[j]? = some v → (w.alloc (.cells A 56)).cell? (ad.add j) = some v from fun hz => by
  rcases h.2 with e | ⟨b, off, e, _⟩
  ·exact absurd e hz
  ·subst e
   refine ⟨_, rfl, fun j v hv => ?_⟩
   rw [Lib.add_plain]
   exact mcells_row (h.below hb0) j v hv)
 have HLN := hide h.1
 have HG0 := hide hg0
 have HONE := hide (mcells_one l)
 have HCL := hide hcl
 have HAS := hide hAs
 clear h hA hb0 hg0 hcl hAs
 go_enter Tryz.func145, Tryz.ntmps145
 go_upto_region 2 with fail
 go_wp2_with (refine wpList_copy_many rfl (.tmp 7) (.tmp 8) 26 26 rfl 56 4 Tryz.underlying26 hsz _ _ _ _ _ _ rfl rfl w.heap.size 0 A.toList 56 (unhide HG0) (mcells l) n (Nat.min_self n).symm (unhide HCL) (fun hz => ⟨rfl, unhide HPS hz⟩) (by have := unhide HCL; have := unhide HAS; simp; omega) (unhide HONE) ?_)
 intro w1 HG1 HM1 hw1
 have hs1 : w1.heap.size = w.heap.size + 1 := by simpa using hw1
 have HL1 := hide (show Lay w1 56 w.heap.size (n * 4) (mcells l) from ⟨[], by
  have := unhide HG1
  rw [splice, List.take_zero, List.nil_append, Nat.zero_add] at this
  rw [List.drop_of_length_le (by have := unhide HCL; have := unhide HAS; simp; omega)] at this
  exact this, by have := unhide HCL; simpa using this⟩)
 have HB1 := hide (show Below w.heap.size w w1 from (unhide HB0).trans ((unhide HM1).below (fun k hk => by omega) (by rw [al_size]; omega)))
 clear HG1 HM1 hw1 HB0 HG0 HPS hmk
 go_wp2
 go_ret
 refine ⟨rfl, ⟨_, ?_, (unhide HL1).below (below_al (Below.refl _ w1) _), mown_nil _ _⟩, by rw [al_size, hs1], below_al (unhide HB1) _⟩
 have := blk_new w1 #[.slice (some ⟨w.heap.size, 0, none⟩) l.length l.length, .slice none 0 0] 167
 rw [hs1] at this
 rw [← unhide HLN] at this ⊢
 exact this

theorem mown_mks {B g : Nat} {w w' : World} {v : Value} {l : List Mac} (hm : Mks (fun k => k = g) w w') (h : MOwn B w v l) (hg : g < B) : MOwn B w' v l :=
 World.ownsRow.kept h hm.grown (.inr (fun e => by have := (World.ownsRow.lt h g e).1; omega))

set_option maxRecDepth 100000 in
set_option maxHeartbeats 4000000 in
theorem takeM_any (g M a : Nat) (l gl : List Mac) (w : World) (h : TakM w g M l gl) (ha : a < l.length) (hl : l.length ≤ 1048576) (hgl : gl.length ≤ 1048576) :
  Calls Tryz.prog 170 #[.pointer (some ⟨g + 1, 0, none⟩), .int .i64 (a : Int)] w fun e w' => e = .returned (macv l[a]) ∧ TakM w' g M (l.eraseIdx a) (gl ++ [l[a]]) ∧ Below g w w' := by
 obtain ⟨i0, hi, hz0, hz1, hz2⟩ := info_parts Tryz.infoMachine
 have hsz : (Tryz.prog.info? 56).map (·.size) = some 4 := by rw [hi]; exact congrArg some hz1
 obtain ⟨v, hbk, hly, how⟩ := h
 obtain ⟨n, hn⟩ : ∃ n, l.length = n := ⟨_, rfl⟩
 have c0 := hly.cell (mcells_at l a ha).1
 have c1 := hly.cell (mcells_at l a ha).2.1
 have c2 := hly.cell (mcells_at l a ha).2.2.1
 have c3 := hly.cell (mcells_at l a ha).2.2.2
 obtain ⟨vo, vc, rfl, hvr, hvc, hvg⟩ := mown_row how
 obtain ⟨m, hm⟩ : ∃ m, gl.length = m := ⟨_, rfl⟩
 obtain ⟨⟨nd, me, cp, se⟩, hq⟩ : ∃ q, l[a] = q := ⟨_, rfl⟩
 have HQ := hide hq
 have HM := hide hm
 have HN := hide hn
 rw [hq] at c0 c1 c2 c3 ⊢
 rw [hm] at hbk how hgl hvc
 rw [hn] at hbk hl ha
 simp only at c0 c1 c2 c3
 have hb0 := below_al (below_al (Below.refl _ w) (.cells #[.string { data := #[] }, .int .i64 0, .int .i64 0, .int .i64 0] 56)) (.cells #[.string (bs nd), .int .i64 me, .int .i64 cp, .int .i64 se] 56)
 have HB0 := hide hb0
 have Z0 := hide ((blk_new w #[.string { data := #[] }, .int .i64 0, .int .i64 0, .int .i64 0] 56).al (.cells #[.string (bs nd), .int .i64 me, .int .i64 cp, .int .i64 se] 56))
 have Z1 := hide (show Blk _ (w.heap.size + 1) #[.string (bs nd), .int .i64 me, .int .i64 cp, .int .i64 se] 56 by have := blk_new (w.alloc (.cells #[.string { data := #[] }, .int .i64 0, .int .i64 0, .int .i64 0] 56)) #[.string (bs nd), .int .i64 me, .int .i64 cp, .int .i64 se] 56; rwa [al_size] at this)
 have d0 := hbk.at 0
 have d1 := hbk.at 1
 simp at d0 d1
 have K0 := hide (hbk.below hb0)
 have L0 := hide (hly.below hb0)
 have O0 := hide (mown_below how hb0)
 have hgs : g + 1 < w.heap.size := hbk.lt
 have HVO := hide (fun k hk => World.ownsRow.lt how k hk)
 have hgs0 : g < w.heap.size := by omega
 have a0 : (0 : Int) ≤ a := by omega
 have a1 : (a : Int) < n := by omega
 clear hb0 hbk hly how hvr hvg hq hm hn
 go_enter Tryz.func170, Tryz.ntmps170
 go_upto_region 2 with fail
 obtain ⟨W, hW⟩ : ∃ W, (w.alloc (.cells #[.string { data := #[] }, .int .i64 0, .int .i64 0, .int .i64 0] 56)).alloc (.cells #[.string (bs nd), .int .i64 me, .int .i64 cp, .int .i64 se] 56) = W := ⟨_, rfl⟩
 rw [hW] at HB0 Z0 Z1 K0 L0 O0 ⊢
 clear hW d0 d1 c0 c1 c2 c3
 have d0 := (unhide K0).at 0
 simp at d0
 obtain ⟨R, hR1, hR2⟩ := unhide L0
 have HR1 := hide hR1
 have HR2 := hide hR2
 have hcl := mcells_len l
 have hdl := mcells_len (l.drop (a + 1))
 rw [List.length_drop] at hdl
 rw [unhide HN] at hcl hdl
 have hRl : (mcells l ++ R).length = n * 4 + R.length := by rw [List.length_append, hcl]
 obtain ⟨CS, hCS⟩ : ∃ c, mcells (l.drop (a + 1)) = c := ⟨_, rfl⟩
 have HCS := hide hCS
 rw [hCS] at hdl
 have HDL := hide hdl
 have HRL := hide hRl
 have H1C := hide (show ∀ v ∈ CS, v.oneCell' = true by rw [← hCS]; exact mcells_one _)
 have HSRC := hide (show ∀ j v, CS[j]? = some v → ∀ wx : World, wx.heap[g]? = W.heap[g]? → wx.cell? ⟨g, (a + 1) * 4 + j, none⟩ = some v from fun j v hv wx hx => by
  have e : (mcells l)[(a + 1) * 4 + j]? = some v := by rw [← hCS, ← mcells_drop l (a + 1) (by have := unhide HN; omega), List.getElem?_drop] at hv; exact hv
  have := (unhide L0).cell e
  rw [← this]
  exact World.cell?_of_block (w := W) (a := ⟨g, (a + 1) * 4 + j, none⟩) hx)
 obtain ⟨LL, hLL⟩ : ∃ L, mcells l ++ R = L := ⟨_, rfl⟩
 have HLL := hide hLL
 rw [hLL] at HR1 HRL
 clear hR1 hR2 hcl hdl hRl hCS hLL
 have hle : a ≤ n := by omega
 have hne : ¬ n = a := by omega
 by_cases hlast : a + 1 = n
 ·have hlast' : (a : Int) + 1 = n := by omega
  have hw1 : IntKind.i64.wrap (n : Int) = n := by rw [IntKind.wrap_i64]; omega
  go_region_law (refine step_copy_many rfl (.tmp 19) (.tmp 26) 26 26 rfl 56 4 Tryz.underlying26 hsz _ _ _ _ _ _ rfl rfl g (a * 4) LL 56 (unhide HR1) CS (n - (a + 1)) (by show _ = min _ _; omega) (by have := unhide HDL; omega) (fun hz => absurd hlast (by omega)) (by have := unhide HRL; have := unhide HDL; omega) (unhide H1C) ?_; intro w2 HG2 HM2 hs2)
  all_goals
   have L2 := hide (show Lay w2 56 g M (mcells (l.eraseIdx a)) from by
    obtain ⟨R', e1, e2⟩ := msplice l R a (by have := unhide HN; omega)
    refine ⟨R', ?_, by rw [e2]; exact unhide HR2⟩
    have := unhide HG2
    rw [← unhide HLL, ← unhide HCS, e1] at this
    exact this)
   have K2 := hide ((unhide HM2).blk1 (unhide K0) (by omega))
   have Z02 := hide ((unhide HM2).blk1 (unhide Z0) (by omega))
   have Z12 := hide ((unhide HM2).blk1 (unhide Z1) (by omega))
   have O2 := hide (mown_mks (B := g + 2) (g := g) (unhide HM2) (unhide O0) (by omega))
   have hgW : g ≤ W.heap.size := Nat.le_of_lt (unhide L0).lt
   have B2 := hide (show Below g w w2 from (((unhide HB0).mono (by omega)).drew).trans ((unhide HM2).below (B := g) (fun k (hk : k = g) => by omega) hgW))
   clear hgW
   have hz2 : w.heap.size + 1 < w2.heap.size := (unhide Z12).lt
   have k0 := (unhide K2).at 0
   have kf := (unhide K2).f 0
   simp at k0
   have hn1 : ((n : Int) - 1).toNat = n - 1 := by omega
   have hn2 : (0 : Int) ≤ (n : Int) - 1 := by omega
   clear HG2 HM2 hs2 K0 Z0 Z1 O0 HB0 d0
   go_upto_region 5 with fail
   have L3 := hide ((unhide L2).other (g + 1) 0 (.slice (some ⟨g, 0, none⟩) (n - 1) (n - 1)) (by omega))
   have K3 := hide (show Blk (w2.setCell ⟨g + 1, 0, none⟩ (.slice (some ⟨g, 0, none⟩) (n - 1) (n - 1))) (g + 1) #[.slice (some ⟨g, 0, none⟩) (n - 1) (n - 1), .slice vo m vc] 167 from (unhide K2).set 0 _)
   have Z03 := hide ((unhide Z02).other (g + 1) 0 (.slice (some ⟨g, 0, none⟩) (n - 1) (n - 1)) (by omega))
   have Z13 := hide ((unhide Z12).other (g + 1) 0 (.slice (some ⟨g, 0, none⟩) (n - 1) (n - 1)) (by omega))
   have O3 := hide (mown_other (unhide O2) (g + 1) 0 (.slice (some ⟨g, 0, none⟩) (n - 1) (n - 1)) (by omega))
   have B3 := hide ((unhide B2).setCell (p := ⟨g + 1, 0, none⟩) (by simp) (.slice (some ⟨g, 0, none⟩) (n - 1) (n - 1)))
   generalize w2.setCell ⟨g + 1, 0, none⟩ (.slice (some ⟨g, 0, none⟩) (n - 1) (n - 1)) = w3 at L3 K3 Z03 Z13 O3 B3 ⊢
   have O3' := hide (show w3.ownsRow (g + 2) 56 4 (.slice vo m vc) m (mcells gl) by have := unhide O3; unfold MOwn at this; rwa [unhide HM] at this)
   have hz3 : w.heap.size + 1 < w3.heap.size := (unhide Z13).lt
   have hgz : g + 1 < w3.heap.size := by omega
   have k1 := (unhide K3).at 1
   have q0 := (unhide Z13).at 0
   have q1 := (unhide Z13).at 1
   have q2 := (unhide Z13).at 2
   have q3 := (unhide Z13).at 3
   simp at k1 q0 q1 q2 q3
   clear k0 kf K2 Z02 Z12 O2 B2 L2 hz2
   go_region_law (refine step_append_lies _ rfl (.tmp 48) (.tmp 50) 26 rfl (g + 2) 56 i0 (.agg #[.string ByteArray.empty, .int .i64 0, .int .i64 0, .int .i64 0]) 4 40 Tryz.underlying26 hi hz0 hz1 hz2 rfl (by decide) (.slice vo m vc) m (mcells gl) rfl (World.ownsRow.alloc (unhide O3') _) ⟨w3.heap.size, 0, none⟩ 1 1 (mcell ⟨nd, me, cp, se⟩) rfl rfl (World.news_of_block (blk_new _ _ _)) (by intro u hu; simp at hu; rcases hu with rfl | rfl | rfl | rfl <;> rfl) (by decide) (by unfold maxLen; omega) (by omega) (by simp; omega) _ rfl ?_; intro go gc w4 hown hgrow hgo _; have HGO := hide hgo; have O4 := hide hown; have G4 := hide hgrow; have K4 := hide (show Blk w4 (g + 1) _ 167 from (hgrow.block (g + 1) (by simp; omega) (fun e => by have := (World.ownsRow.lt (unhide O3') (g + 1) e.symm).1; omega)).trans ((unhide K3).al _)); have k4 := (unhide K4).at 1; have f4 := (unhide K4).f 1; simp at k4; clear hown hgrow hgo)
   all_goals
    have hgo : go < w.heap.size ∨ w.heap.size + 1 < go := by
     rcases unhide HGO with e | e
     ·exact .inl (unhide HVO go e).2
     ·right
      rw [e]
      simp
      omega
    have K5 := hide (show Blk (w4.setCell ⟨g + 1, 1, none⟩ (.slice (some ⟨go, 0, none⟩) (m + 1) gc)) (g + 1) #[.slice (some ⟨g, 0, none⟩) (n - 1) (n - 1), .slice (some ⟨go, 0, none⟩) (m + 1) gc] 167 from (unhide K4).set 1 _)
    have far : ∀ (k : Nat) (arr : Array Value) (t : TypeId), Blk w3 k arr t → (k < g + 2 ∨ w.heap.size ≤ k) → Blk w4 k arr t := fun k arr t hk hn => ((unhide G4).block k (by have := hk.lt; simp; omega) (fun e => by have := unhide HVO k e.symm; omega)).trans (hk.al _)
    have Z05 := hide ((far _ _ _ (unhide Z03) (.inr (Nat.le_refl _))).other (g + 1) 1 (.slice (some ⟨go, 0, none⟩) (m + 1) gc) (by omega))
    have Z15 := hide ((far _ _ _ (unhide Z13) (.inr (by omega))).other (g + 1) 1 (.slice (some ⟨go, 0, none⟩) (m + 1) gc) (by omega))
    have L5 := hide ((show Lay w4 56 g M (mcells (l.eraseIdx a)) from ((unhide L3).below (below_al (Below.refl _ w3) (.cells #[.string (bs nd), .int .i64 me, .int .i64 cp, .int .i64 se] 56))).of_block ((unhide G4).block g (by have := (unhide L3).lt; simp; omega) (fun e => by have := (unhide HVO g e.symm).1; omega))).other (g + 1) 1 (.slice (some ⟨go, 0, none⟩) (m + 1) gc) (by omega))
    have O5 := hide (show MOwn (g + 2) (w4.setCell ⟨g + 1, 1, none⟩ (.slice (some ⟨go, 0, none⟩) (m + 1) gc)) (.slice (some ⟨go, 0, none⟩) (m + 1) gc) (gl ++ [⟨nd, me, cp, se⟩]) from mown_other (by unfold MOwn; rw [mcells_app, List.length_append, unhide HM]; exact unhide O4) (g + 1) 1 _ (by omega))
    have B5 := hide (show Below g w (w4.setCell ⟨g + 1, 1, none⟩ (.slice (some ⟨go, 0, none⟩) (m + 1) gc)) from ((((unhide B3).trans ((below_al (Below.refl _ w3) (.cells #[.string (bs nd), .int .i64 me, .int .i64 cp, .int .i64 se] 56)).mono (by omega))).drew).grown (unhide G4) (by simp; omega) (fun k e => by have := (unhide HVO k e).1; omega)).setCell (p := ⟨g + 1, 1, none⟩) (by simp) _)
    clear far
    generalize w4.setCell ⟨g + 1, 1, none⟩ (.slice (some ⟨go, 0, none⟩) (m + 1) gc) = w5 at K5 Z05 Z15 L5 O5 B5 ⊢
    have s0 := (unhide Z15).at 0; have s1 := (unhide Z15).at 1; have s2 := (unhide Z15).at 2; have s3 := (unhide Z15).at 3
    have r0 := (unhide Z05).at 0; have r1 := (unhide Z05).at 1; have r2 := (unhide Z05).at 2; have r3 := (unhide Z05).at 3
    have u0 := (unhide Z05).f 0; have u1 := (unhide Z05).f 1; have u2 := (unhide Z05).f 2; have u3 := (unhide Z05).f 3
    simp at s0 s1 s2 s3 r0 r1 r2 r3
    clear K3 Z03 Z13 O3 O3' B3 L3 k1 q0 q1 q2 q3 k4 f4 K4 G4 O4 HGO
    go_wp2
    have R9 := hide (show Blk ((((w5.setCell ⟨w.heap.size, 0, none⟩ (.string (bs nd))).setCell ⟨w.heap.size, 1, none⟩ (.int .i64 me)).setCell ⟨w.heap.size, 2, none⟩ (.int .i64 cp)).setCell ⟨w.heap.size, 3, none⟩ (.int .i64 se)) w.heap.size #[.string (bs nd), .int .i64 me, .int .i64 cp, .int .i64 se] 56 from (((((unhide Z05).set 0 (.string (bs nd))).set 1 (.int .i64 me)).set 2 (.int .i64 cp)).set 3 (.int .i64 se)))
    have K9 := hide ((((((unhide K5).other w.heap.size 0 (.string (bs nd)) (by omega)).other w.heap.size 1 (.int .i64 me) (by omega)).other w.heap.size 2 (.int .i64 cp) (by omega)).other w.heap.size 3 (.int .i64 se) (by omega)))
    have L9 := hide ((((((unhide L5).other w.heap.size 0 (.string (bs nd)) (by omega)).other w.heap.size 1 (.int .i64 me) (by omega)).other w.heap.size 2 (.int .i64 cp) (by omega)).other w.heap.size 3 (.int .i64 se) (by omega)))
    have O9 := hide (show MOwn (g + 2) ((((w5.setCell ⟨w.heap.size, 0, none⟩ (.string (bs nd))).setCell ⟨w.heap.size, 1, none⟩ (.int .i64 me)).setCell ⟨w.heap.size, 2, none⟩ (.int .i64 cp)).setCell ⟨w.heap.size, 3, none⟩ (.int .i64 se)) (.slice (some ⟨go, 0, none⟩) (m + 1) gc) (gl ++ [⟨nd, me, cp, se⟩]) from (ownsRow_setCell_other (ownsRow_setCell_other (ownsRow_setCell_other (ownsRow_setCell_other (unhide O5) (a := ⟨w.heap.size, 0, none⟩) (by simp [Value.ownBlock]; omega) (.string (bs nd))) (a := ⟨w.heap.size, 1, none⟩) (by simp [Value.ownBlock]; omega) (.int .i64 me)) (a := ⟨w.heap.size, 2, none⟩) (by simp [Value.ownBlock]; omega) (.int .i64 cp)) (a := ⟨w.heap.size, 3, none⟩) (by simp [Value.ownBlock]; omega) (.int .i64 se)))
    have B9 := hide ((((((unhide B5).setCell (p := ⟨w.heap.size, 0, none⟩) (by show g ≤ w.heap.size; omega) (.string (bs nd))).setCell (p := ⟨w.heap.size, 1, none⟩) (by show g ≤ w.heap.size; omega) (.int .i64 me)).setCell (p := ⟨w.heap.size, 2, none⟩) (by show g ≤ w.heap.size; omega) (.int .i64 cp)).setCell (p := ⟨w.heap.size, 3, none⟩) (by show g ≤ w.heap.size; omega) (.int .i64 se)))
    generalize ((((w5.setCell ⟨w.heap.size, 0, none⟩ (.string (bs nd))).setCell ⟨w.heap.size, 1, none⟩ (.int .i64 me)).setCell ⟨w.heap.size, 2, none⟩ (.int .i64 cp)).setCell ⟨w.heap.size, 3, none⟩ (.int .i64 se)) = W9 at R9 K9 L9 O9 B9 ⊢
    have z0 := (unhide R9).at 0; have z1 := (unhide R9).at 1; have z2 := (unhide R9).at 2; have z3 := (unhide R9).at 3
    simp at z0 z1 z2 z3
    refine bodyPost_ret (v := .agg #[.string (bs nd), .int .i64 me, .int .i64 cp, .int .i64 se]) (by simp [results, Tryz.results170, go_sem, z0, z1, z2, z3]) rfl ⟨rfl, ⟨_, ?_, unhide L9, unhide O9⟩, unhide B9⟩
    rw [List.length_eraseIdx_of_lt (by have := unhide HN; omega), unhide HN]
    exact unhide K9
 ·have hw1 : IntKind.i64.wrap ((a : Int) + 1) = (a : Int) + 1 := by rw [IntKind.wrap_i64]; omega
  have hle2 : (a : Int) + 1 ≤ n := by omega
  have hle3 : a + 1 ≤ n := by omega
  have hne2 : ¬ n = a + 1 := by omega
  have htn : ((a : Int) + 1).toNat = a + 1 := by omega
  have ha2 : (0 : Int) ≤ (a : Int) + 1 := by omega
  go_region_law (refine step_copy_many rfl (.tmp 19) (.tmp 26) 26 26 rfl 56 4 Tryz.underlying26 hsz _ _ _ _ _ _ rfl rfl g (a * 4) LL 56 (unhide HR1) CS (n - (a + 1)) (by show _ = min _ _; omega) (by have := unhide HDL; omega) (fun hz => ⟨rfl, _, rfl, fun j v hv => by rw [Lib.add_plain]; exact unhide HSRC j v hv _ rfl⟩) (by have := unhide HRL; have := unhide HDL; omega) (unhide H1C) ?_; intro w2 HG2 HM2 hs2)
  all_goals
   have L2 := hide (show Lay w2 56 g M (mcells (l.eraseIdx a)) from by
    obtain ⟨R', e1, e2⟩ := msplice l R a (by have := unhide HN; omega)
    refine ⟨R', ?_, by rw [e2]; exact unhide HR2⟩
    have := unhide HG2
    rw [← unhide HLL, ← unhide HCS, e1] at this
    exact this)
   have K2 := hide ((unhide HM2).blk1 (unhide K0) (by omega))
   have Z02 := hide ((unhide HM2).blk1 (unhide Z0) (by omega))
   have Z12 := hide ((unhide HM2).blk1 (unhide Z1) (by omega))
   have O2 := hide (mown_mks (B := g + 2) (g := g) (unhide HM2) (unhide O0) (by omega))
   have hgW : g ≤ W.heap.size := Nat.le_of_lt (unhide L0).lt
   have B2 := hide (show Below g w w2 from (((unhide HB0).mono (by omega)).drew).trans ((unhide HM2).below (B := g) (fun k (hk : k = g) => by omega) hgW))
   clear hgW
   have hz2 : w.heap.size + 1 < w2.heap.size := (unhide Z12).lt
   have k0 := (unhide K2).at 0
   have kf := (unhide K2).f 0
   simp at k0
   have hn1 : ((n : Int) - 1).toNat = n - 1 := by omega
   have hn2 : (0 : Int) ≤ (n : Int) - 1 := by omega
   clear HG2 HM2 hs2 K0 Z0 Z1 O0 HB0 d0
   go_upto_region 5 with fail
   have L3 := hide ((unhide L2).other (g + 1) 0 (.slice (some ⟨g, 0, none⟩) (n - 1) (n - 1)) (by omega))
   have K3 := hide (show Blk (w2.setCell ⟨g + 1, 0, none⟩ (.slice (some ⟨g, 0, none⟩) (n - 1) (n - 1))) (g + 1) #[.slice (some ⟨g, 0, none⟩) (n - 1) (n - 1), .slice vo m vc] 167 from (unhide K2).set 0 _)
   have Z03 := hide ((unhide Z02).other (g + 1) 0 (.slice (some ⟨g, 0, none⟩) (n - 1) (n - 1)) (by omega))
   have Z13 := hide ((unhide Z12).other (g + 1) 0 (.slice (some ⟨g, 0, none⟩) (n - 1) (n - 1)) (by omega))
   have O3 := hide (mown_other (unhide O2) (g + 1) 0 (.slice (some ⟨g, 0, none⟩) (n - 1) (n - 1)) (by omega))
   have B3 := hide ((unhide B2).setCell (p := ⟨g + 1, 0, none⟩) (by simp) (.slice (some ⟨g, 0, none⟩) (n - 1) (n - 1)))
   generalize w2.setCell ⟨g + 1, 0, none⟩ (.slice (some ⟨g, 0, none⟩) (n - 1) (n - 1)) = w3 at L3 K3 Z03 Z13 O3 B3 ⊢
   have O3' := hide (show w3.ownsRow (g + 2) 56 4 (.slice vo m vc) m (mcells gl) by have := unhide O3; unfold MOwn at this; rwa [unhide HM] at this)
   have hz3 : w.heap.size + 1 < w3.heap.size := (unhide Z13).lt
   have hgz : g + 1 < w3.heap.size := by omega
   have k1 := (unhide K3).at 1
   have q0 := (unhide Z13).at 0
   have q1 := (unhide Z13).at 1
   have q2 := (unhide Z13).at 2
   have q3 := (unhide Z13).at 3
   simp at k1 q0 q1 q2 q3
   clear k0 kf K2 Z02 Z12 O2 B2 L2 hz2
   go_region_law (refine step_append_lies _ rfl (.tmp 48) (.tmp 50) 26 rfl (g + 2) 56 i0 (.agg #[.string ByteArray.empty, .int .i64 0, .int .i64 0, .int .i64 0]) 4 40 Tryz.underlying26 hi hz0 hz1 hz2 rfl (by decide) (.slice vo m vc) m (mcells gl) rfl (World.ownsRow.alloc (unhide O3') _) ⟨w3.heap.size, 0, none⟩ 1 1 (mcell ⟨nd, me, cp, se⟩) rfl rfl (World.news_of_block (blk_new _ _ _)) (by intro u hu; simp at hu; rcases hu with rfl | rfl | rfl | rfl <;> rfl) (by decide) (by unfold maxLen; omega) (by omega) (by simp; omega) _ rfl ?_; intro go gc w4 hown hgrow hgo _; have HGO := hide hgo; have O4 := hide hown; have G4 := hide hgrow; have K4 := hide (show Blk w4 (g + 1) _ 167 from (hgrow.block (g + 1) (by simp; omega) (fun e => by have := (World.ownsRow.lt (unhide O3') (g + 1) e.symm).1; omega)).trans ((unhide K3).al _)); have k4 := (unhide K4).at 1; have f4 := (unhide K4).f 1; simp at k4; clear hown hgrow hgo)
   all_goals
    have hgo : go < w.heap.size ∨ w.heap.size + 1 < go := by
     rcases unhide HGO with e | e
     ·exact .inl (unhide HVO go e).2
     ·right
      rw [e]
      simp
      omega
    have K5 := hide (show Blk (w4.setCell ⟨g + 1, 1, none⟩ (.slice (some ⟨go, 0, none⟩) (m + 1) gc)) (g + 1) #[.slice (some ⟨g, 0, none⟩) (n - 1) (n - 1), .slice (some ⟨go, 0, none⟩) (m + 1) gc] 167 from (unhide K4).set 1 _)
    have far : ∀ (k : Nat) (arr : Array Value) (t : TypeId), Blk w3 k arr t → (k < g + 2 ∨ w.heap.size ≤ k) → Blk w4 k arr t := fun k arr t hk hn => ((unhide G4).block k (by have := hk.lt; simp; omega) (fun e => by have := unhide HVO k e.symm; omega)).trans (hk.al _)
    have Z05 := hide ((far _ _ _ (unhide Z03) (.inr (Nat.le_refl _))).other (g + 1) 1 (.slice (some ⟨go, 0, none⟩) (m + 1) gc) (by omega))
    have Z15 := hide ((far _ _ _ (unhide Z13) (.inr (by omega))).other (g + 1) 1 (.slice (some ⟨go, 0, none⟩) (m + 1) gc) (by omega))
    have L5 := hide ((show Lay w4 56 g M (mcells (l.eraseIdx a)) from ((unhide L3).below (below_al (Below.refl _ w3) (.cells #[.string (bs nd), .int .i64 me, .int .i64 cp, .int .i64 se] 56))).of_block ((unhide G4).block g (by have := (unhide L3).lt; simp; omega) (fun e => by have := (unhide HVO g e.symm).1; omega))).other (g + 1) 1 (.slice (some ⟨go, 0, none⟩) (m + 1) gc) (by omega))
    have O5 := hide (show MOwn (g + 2) (w4.setCell ⟨g + 1, 1, none⟩ (.slice (some ⟨go, 0, none⟩) (m + 1) gc)) (.slice (some ⟨go, 0, none⟩) (m + 1) gc) (gl ++ [⟨nd, me, cp, se⟩]) from mown_other (by unfold MOwn; rw [mcells_app, List.length_append, unhide HM]; exact unhide O4) (g + 1) 1 _ (by omega))
    have B5 := hide (show Below g w (w4.setCell ⟨g + 1, 1, none⟩ (.slice (some ⟨go, 0, none⟩) (m + 1) gc)) from ((((unhide B3).trans ((below_al (Below.refl _ w3) (.cells #[.string (bs nd), .int .i64 me, .int .i64 cp, .int .i64 se] 56)).mono (by omega))).drew).grown (unhide G4) (by simp; omega) (fun k e => by have := (unhide HVO k e).1; omega)).setCell (p := ⟨g + 1, 1, none⟩) (by simp) _)
    clear far
    generalize w4.setCell ⟨g + 1, 1, none⟩ (.slice (some ⟨go, 0, none⟩) (m + 1) gc) = w5 at K5 Z05 Z15 L5 O5 B5 ⊢
    have s0 := (unhide Z15).at 0; have s1 := (unhide Z15).at 1; have s2 := (unhide Z15).at 2; have s3 := (unhide Z15).at 3
    have r0 := (unhide Z05).at 0; have r1 := (unhide Z05).at 1; have r2 := (unhide Z05).at 2; have r3 := (unhide Z05).at 3
    have u0 := (unhide Z05).f 0; have u1 := (unhide Z05).f 1; have u2 := (unhide Z05).f 2; have u3 := (unhide Z05).f 3
    simp at s0 s1 s2 s3 r0 r1 r2 r3
    clear K3 Z03 Z13 O3 O3' B3 L3 k1 q0 q1 q2 q3 k4 f4 K4 G4 O4 HGO
    go_wp2
    have R9 := hide (show Blk ((((w5.setCell ⟨w.heap.size, 0, none⟩ (.string (bs nd))).setCell ⟨w.heap.size, 1, none⟩ (.int .i64 me)).setCell ⟨w.heap.size, 2, none⟩ (.int .i64 cp)).setCell ⟨w.heap.size, 3, none⟩ (.int .i64 se)) w.heap.size #[.string (bs nd), .int .i64 me, .int .i64 cp, .int .i64 se] 56 from (((((unhide Z05).set 0 (.string (bs nd))).set 1 (.int .i64 me)).set 2 (.int .i64 cp)).set 3 (.int .i64 se)))
    have K9 := hide ((((((unhide K5).other w.heap.size 0 (.string (bs nd)) (by omega)).other w.heap.size 1 (.int .i64 me) (by omega)).other w.heap.size 2 (.int .i64 cp) (by omega)).other w.heap.size 3 (.int .i64 se) (by omega)))
    have L9 := hide ((((((unhide L5).other w.heap.size 0 (.string (bs nd)) (by omega)).other w.heap.size 1 (.int .i64 me) (by omega)).other w.heap.size 2 (.int .i64 cp) (by omega)).other w.heap.size 3 (.int .i64 se) (by omega)))
    have O9 := hide (show MOwn (g + 2) ((((w5.setCell ⟨w.heap.size, 0, none⟩ (.string (bs nd))).setCell ⟨w.heap.size, 1, none⟩ (.int .i64 me)).setCell ⟨w.heap.size, 2, none⟩ (.int .i64 cp)).setCell ⟨w.heap.size, 3, none⟩ (.int .i64 se)) (.slice (some ⟨go, 0, none⟩) (m + 1) gc) (gl ++ [⟨nd, me, cp, se⟩]) from (ownsRow_setCell_other (ownsRow_setCell_other (ownsRow_setCell_other (ownsRow_setCell_other (unhide O5) (a := ⟨w.heap.size, 0, none⟩) (by simp [Value.ownBlock]; omega) (.string (bs nd))) (a := ⟨w.heap.size, 1, none⟩) (by simp [Value.ownBlock]; omega) (.int .i64 me)) (a := ⟨w.heap.size, 2, none⟩) (by simp [Value.ownBlock]; omega) (.int .i64 cp)) (a := ⟨w.heap.size, 3, none⟩) (by simp [Value.ownBlock]; omega) (.int .i64 se)))
    have B9 := hide ((((((unhide B5).setCell (p := ⟨w.heap.size, 0, none⟩) (by show g ≤ w.heap.size; omega) (.string (bs nd))).setCell (p := ⟨w.heap.size, 1, none⟩) (by show g ≤ w.heap.size; omega) (.int .i64 me)).setCell (p := ⟨w.heap.size, 2, none⟩) (by show g ≤ w.heap.size; omega) (.int .i64 cp)).setCell (p := ⟨w.heap.size, 3, none⟩) (by show g ≤ w.heap.size; omega) (.int .i64 se)))
    generalize ((((w5.setCell ⟨w.heap.size, 0, none⟩ (.string (bs nd))).setCell ⟨w.heap.size, 1, none⟩ (.int .i64 me)).setCell ⟨w.heap.size, 2, none⟩ (.int .i64 cp)).setCell ⟨w.heap.size, 3, none⟩ (.int .i64 se)) = W9 at R9 K9 L9 O9 B9 ⊢
    have z0 := (unhide R9).at 0; have z1 := (unhide R9).at 1; have z2 := (unhide R9).at 2; have z3 := (unhide R9).at 3
    simp at z0 z1 z2 z3
    refine bodyPost_ret (v := .agg #[.string (bs nd), .int .i64 me, .int .i64 cp, .int .i64 se]) (by simp [results, Tryz.results170, go_sem, z0, z1, z2, z3]) rfl ⟨rfl, ⟨_, ?_, unhide L9, unhide O9⟩, unhide B9⟩
    rw [List.length_eraseIdx_of_lt (by have := unhide HN; omega), unhide HN]
    exact unhide K9

end Go.Proofs.YtbkchepelhkjlaaGreat

/-
 The program's generic list from which some are taken, of machines: takeAll (mktak.py wrote this); a walk over the dump.
-/
namespace Go.Proofs.YtbkchepelhkjlaaGreat
open Go.RowKit
set_option linter.unusedVariables false
/-- how many stay -/
def stLenM (w : World) (p : Nat) : Nat := match w.cell? ⟨p, 0, none⟩ with | some (.slice _ n _) => n | _ => 0
theorem stLenM_of {w : World} {p n c : Nat} {ao : Option Addr} (h : w.cell? ⟨p, 0, none⟩ = some (.slice ao n c)) : stLenM w p = n := by simp [stLenM, h]
theorem TakM.len {w : World} {g M : Nat} {l gl : List Mac} (h : TakM w g M l gl) : stLenM w (g + 1) = l.length := by
 obtain ⟨v, hb, _⟩ := h
 have := hb.at 0
 simp at this
 exact stLenM_of this

set_option maxRecDepth 100000 in
set_option maxHeartbeats 4000000 in
theorem takeAllM_any (gf : Nat) (lb : Array Value) (eg : ∀ args w, (callFunc gf args).run Tryz.prog w = .ok (.enter gf args) w) (p : Mac → Bool) (g M : Nat) (l gl : List Mac) (w : World) (h : TakM w g M l gl) (hl : gl.length + l.length ≤ 1048576)
  (hp : ∀ wx q, q ∈ l → Below g w wx → Calls Tryz.prog gf (#[macv q] ++ lb) wx fun e w' => e = .returned (.bool (p q)) ∧ Below wx.heap.size wx w') :
  Calls Tryz.prog 146 #[.pointer (some ⟨g + 1, 0, none⟩), .func (.func gf) #[] lb] w fun e w' => e = .returned (.tuple #[]) ∧ TakM w' g M (l.filter (fun q => !p q)) (gl ++ l.filter p) ∧ Below g w w' := by
 have HT := hide h
 have HP := hide hp
 clear h hp
 go_enter Tryz.func146, Tryz.ntmps146
 go_wp2
 go_loopw [4] (fun i wr => ∃ (k : Nat), i = .int .i64 (k : Int) ∧ Hid (∃ d, d ≤ l.length ∧ k = ((l.take d).filter (fun q => !p q)).length ∧ TakM wr g M ((l.take d).filter (fun q => !p q) ++ l.drop d) (gl ++ (l.take d).filter p)) ∧ Hid (Below g w wr)) (fun i wr => stLenM wr (g + 1) - (intOf i).toNat)
 case atStart => exact ⟨0, rfl, hide ⟨0, Nat.zero_le _, by simp, by simpa using unhide HT⟩, hide (Below.refl _ _)⟩
 case round =>
  obtain ⟨k, rfl, HK, HB⟩ := hrel
  obtain ⟨d, hd, hk, ht⟩ := unhide HK
  have hkd : k ≤ d := by rw [hk]; refine Nat.le_trans (List.length_filter_le _ _) ?_; rw [List.length_take]; omega
  have hk2 : k ≤ 1048576 := by omega
  obtain ⟨v, hbk, hly, how⟩ := ht
  have c0 := (hbk.at 0).trans (show _ = some (Value.slice (some ⟨g, 0, none⟩) ((l.take d).filter (fun q => !p q) ++ l.drop d).length ((l.take d).filter (fun q => !p q) ++ l.drop d).length) from rfl)
  have hlen : ((l.take d).filter (fun q => !p q) ++ l.drop d).length = k + (l.length - d) := by rw [List.length_append, List.length_drop, ← hk]
  rw [hlen] at c0
  obtain ⟨n, hn⟩ : ∃ n, k + (l.length - d) = n := ⟨_, rfl⟩
  rw [hn] at c0
  have hm := stLenM_of c0
  by_cases hlt : d < l.length
  ·have hkn : (k : Int) < n := by omega
   have hel : k < ((l.take d).filter (fun q => !p q) ++ l.drop d).length := by omega
   have hq : ((l.take d).filter (fun q => !p q) ++ l.drop d)[k] = l[d] := by
    rw [List.getElem_append_right (by omega)]
    simp [← hk]
   obtain ⟨x0, x1, x2, x3⟩ := mcells_at _ k hel
   rw [hq] at x0 x1 x2 x3
   have e0 := hly.cell x0; have e1 := hly.cell x1; have e2 := hly.cell x2; have e3 := hly.cell x3
   have CL := hide (unhide HP wr l[d] (List.getElem_mem hlt) (unhide HB))
   have hsp : l.take (d + 1) = l.take d ++ [l[d]] := by rw [List.take_succ_eq_append_getElem hlt]
   have hdr : l.drop d = l[d] :: l.drop (d + 1) := List.drop_eq_getElem_cons hlt
   have hgk : (gl ++ (l.take d).filter p).length ≤ 1048576 := by
    have := List.length_filter_le p (l.take d)
    rw [List.length_take] at this
    rw [List.length_append]
    omega
   have CT := hide (fun wx (hb : Below wr.heap.size wr wx) => takeM_any g M k _ _ wx (TakM.below ⟨v, hbk, hly, how⟩ hb) hel (by omega) hgk)
   rw [hq] at CT
   have HTK := hide (show TakM wr g M _ _ from ⟨v, hbk, hly, how⟩)
   obtain ⟨q, hqe⟩ : ∃ q, l[d] = q := ⟨_, rfl⟩
   rw [hqe] at e0 e1 e2 e3 CL CT hsp hdr
   have HSP := hide hsp
   have HDR := hide hdr
   have HKK := hide hk
   have HLN := hide hlen
   have HNN := hide hn
   have HM := hide hm
   have hd' : d + 1 ≤ l.length := hlt
   obtain ⟨nd, me, cp, se⟩ := q
   simp only at e0 e1 e2 e3
   have k0 : (0 : Int) ≤ k := by omega
   clear hbk hly how x0 x1 x2 x3 hq hqe hsp hdr hk hlen hn hm hgk HK hel
   cases hpq : p ⟨nd, me, cp, se⟩ with
   | true =>
    rw [hpq] at CL
    have HPQ := hide hpq
    clear hpq
    go_wp2_with (go_at_fn gf; refine (unhide CL).mono ?_; rintro e w1 ⟨rfl, hb⟩; have HB1 := hide hb; clear hb CL)
    go_wp2_with fail
    refine (unhide CT _ (unhide HB1)).mono ?_
    rintro e w2 ⟨rfl, ht, hb⟩
    have HT2 := hide ht
    have hz : g ≤ wr.heap.size := by obtain ⟨v, hbk, _⟩ := unhide HTK; have := hbk.lt; omega
    have HB2 := hide (((unhide HB).trans ((unhide HB1).mono hz)).trans hb)
    clear ht hb CT
    go_wp2
    go_roundw
    case rel =>
     refine ⟨k, rfl, hide ⟨d + 1, hd', ?_, ?_⟩, HB2⟩
     ·rw [unhide HSP, List.filter_append, unhide HKK]
      simp [unhide HPQ]
     ·have := unhide HT2
      rw [unhide HDR, List.eraseIdx_append_of_length_le (by have := unhide HKK; omega)] at this
      rw [show k - ((l.take d).filter (fun q => !p q)).length = 0 by have := unhide HKK; omega, List.eraseIdx_cons_zero] at this
      rw [unhide HSP, List.filter_append, List.filter_append]
      simpa [unhide HPQ] using this
    case measure =>
     rw [(unhide HT2).len, unhide HM]
     have hh := unhide HLN
     have hnn := unhide HNN
     rw [List.length_eraseIdx_of_lt (by omega), hh]
     simp [intOf]
     omega
   | false =>
    rw [hpq] at CL
    have HPQ := hide hpq
    clear hpq
    go_wp2_with (go_at_fn gf; refine (unhide CL).mono ?_; rintro e w1 ⟨rfl, hb⟩; have HB1 := hide hb; clear hb CL)
    have hz : g ≤ wr.heap.size := by obtain ⟨v, hbk, _⟩ := unhide HTK; have := hbk.lt; omega
    go_wp2
    go_roundw
    case rel =>
     refine ⟨k + 1, by go_num, hide ⟨d + 1, hd', ?_, ?_⟩, hide ((unhide HB).trans ((unhide HB1).mono hz))⟩
     ·rw [unhide HSP, List.filter_append, List.length_append, ← unhide HKK]
      simp [unhide HPQ]
     ·have := (unhide HTK).below (unhide HB1)
      rw [unhide HDR] at this
      rw [unhide HSP, List.filter_append, List.filter_append]
      simpa [unhide HPQ] using this
    case measure =>
     rw [((unhide HTK).below (unhide HB1)).len, unhide HM, unhide HLN]
     have hnn := unhide HNN
     simp [intOf]
     omega
  ·have hkn : ¬ (k : Int) < n := by omega
   have HTK := hide (show TakM wr g M _ _ from ⟨v, hbk, hly, how⟩)
   have htk : l.take d = l := List.take_of_length_le (by omega)
   have hdr : l.drop d = [] := List.drop_of_length_le (by omega)
   rw [htk, hdr, List.append_nil] at HTK
   clear hbk hly how HK hk hlen htk hdr
   go_wp2
   go_end0
   exact ⟨rfl, unhide HTK, unhide HB⟩
end Go.Proofs.YtbkchepelhkjlaaGreat
