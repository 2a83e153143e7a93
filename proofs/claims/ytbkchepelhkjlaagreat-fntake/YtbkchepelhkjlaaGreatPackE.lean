/-
  Several texts of this claim in one: Clone, ARow, QOwn, CloneQ, Hav (pack.py put them together); each says in its own remark what is proved.
-/
import Derived.Test.YtbkchepelhkjlaaGreatRows
import Derived.Test.YtbkchepelhkjlaaGreatShelf
import Derived.WalkKit
import Derived.Test.YtbkchepelhkjlaaGreatStAll
import Derived.Test.YtbkchepelhkjlaaGreatPackC
import Derived.Laws.AppendOwn
import Derived.Lib.SliceRun
import Derived.Deep.RegionWith
import Derived.Test.YtbkchepelhkjlaaGreatPackA
import Derived.Test.YtbkchepelhkjlaaGreatPackB
import Derived.Test.YtbkchepelhkjlaaGreatPackD
/-
 What strings.Clone answers: the same text.
-/
namespace Go.Proofs.YtbkchepelhkjlaaGreat
open Go.RowKit
set_option maxHeartbeats 400000 in
theorem clone_any (s : ByteArray) (w : World) (hs : s.size ≤ 281474976710656) :
  Calls Tryz.prog 110 #[.string s] w fun e w' => e = .returned (.string s) ∧ Below w.heap.size w w' := by
 go_enter Tryz.func110, Tryz.ntmps110
 go_wp2_with fail
 refine (Tryz.stringslite_Clone s _ hs).mono ?_
 rintro e w1 ⟨rfl, hb⟩
 have HB : Hid (Below w.heap.size w w1) := hb
 clear hb
 go_wp2
 go_ret
 exact ⟨rfl, HB⟩
end Go.Proofs.YtbkchepelhkjlaaGreat

/-
 Lists of asks that a call gathers: rows of their own; the library's Clone of asks; walks over the dump.
-/
namespace Go.Proofs.YtbkchepelhkjlaaGreat
open Go.RowKit
set_option linter.unusedVariables false
abbrev acell (q : Ask) : List Value := [.int .i64 q.mem, .int .i64 q.cpu, .int .i64 q.count, .string (bs q.node), .int .i64 q.missed]
def acells : List Ask → List Value
 | [] => []
 | q :: t => acell q ++ acells t
theorem acells_len : ∀ l : List Ask, (acells l).length = l.length * 5
 | [] => rfl
 | q :: t => by rw [acells, List.length_append, acells_len t]; simp; omega
theorem acells_at : ∀ (l : List Ask) (i : Nat) (h : i < l.length), (acells l)[i * 5]? = some (.int .i64 l[i].mem) ∧ (acells l)[i * 5 + 1]? = some (.int .i64 l[i].cpu) ∧ (acells l)[i * 5 + 2]? = some (.int .i64 l[i].count) ∧ (acells l)[i * 5 + 3]? = some (.string (bs l[i].node)) ∧ (acells l)[i * 5 + 4]? = some (.int .i64 l[i].missed)
 | q :: t, 0, _ => ⟨rfl, rfl, rfl, rfl, rfl⟩
 | q :: t, i + 1, h => by
  have e := acells_at t i (by simpa using h)
  have k : ∀ j, (acells (q :: t))[(i + 1) * 5 + j]? = (acells t)[i * 5 + j]? := fun j => by
   rw [acells, show (i + 1) * 5 + j = (acell q).length + (i * 5 + j) by simp; omega, List.getElem?_append_right (by omega)]
   congr 1
   omega
  have k0 := k 0
  simp only [Nat.add_zero] at k0
  rw [k0, k 1, k 2, k 3, k 4]
  simpa using e
theorem acells_row {w : World} {b off len : Nat} {l : List Ask} (h : AskRow w (some ⟨b, off, none⟩) len l) : ∀ j u, (acells l)[j]? = some u → w.cell? ⟨b, off + j, none⟩ = some u := fun j u hj => by
 have hjl : j < l.length * 5 := by rw [← acells_len]; exact (List.getElem?_eq_some_iff.1 hj).1
 obtain ⟨h1, h2⟩ := h
 rcases h2 with h2 | ⟨b', off', e, h4⟩
 ·omega
 ·cases e
  have hi : j / 5 < l.length := by omega
  obtain ⟨a0, a1, a2, a3, a4⟩ := acells_at l (j / 5) hi
  obtain ⟨c0, c1, c2, c3, c4⟩ := h4 (j / 5) hi
  rcases (show j % 5 = 0 ∨ j % 5 = 1 ∨ j % 5 = 2 ∨ j % 5 = 3 ∨ j % 5 = 4 by omega) with e | e | e | e | e
  ·rw [show j = j / 5 * 5 by omega] at hj ⊢; rw [a0] at hj; cases hj; exact c0
  ·rw [show j = j / 5 * 5 + 1 by omega] at hj ⊢; rw [a1] at hj; cases hj; rw [← Nat.add_assoc]; exact c1
  ·rw [show j = j / 5 * 5 + 2 by omega] at hj ⊢; rw [a2] at hj; cases hj; rw [← Nat.add_assoc]; exact c2
  ·rw [show j = j / 5 * 5 + 3 by omega] at hj ⊢; rw [a3] at hj; cases hj; rw [← Nat.add_assoc]; exact c3
  ·rw [show j = j / 5 * 5 + 4 by omega] at hj ⊢; rw [a4] at hj; cases hj; rw [← Nat.add_assoc]; exact c4
theorem acells_one : ∀ (l : List Ask), ∀ u ∈ acells l, u.oneCell' = true
 | [], u, h => by simp [acells] at h
 | q :: t, u, h => by
  rw [acells, List.mem_append] at h
  rcases h with h | h
  ·simp at h
   rcases h with rfl | rfl | rfl | rfl | rfl <;> rfl
  ·exact acells_one t u h
/-- v is a list of these asks, in memory of its own from block B on -/
def AOwn (B : Nat) (w : World) (v : Value) (l : List Ask) : Prop := w.ownsRow B 106 5 v l.length (acells l)
theorem aown_nil (B : Nat) (w : World) : AOwn B w (.slice none 0 0) [] := World.ownsRow_nil _ _ _ _
theorem aown_empty (w : World) : w.alloc (.cells #[] 106) |>.ownsRow w.heap.size 106 5 (.slice (some ⟨w.heap.size, 0, none⟩) 0 0) 0 [] :=
 ⟨rfl, .inr ⟨w.heap.size, 0, #[], rfl, Nat.le_refl _, by show (w.heap.push _)[w.heap.size]? = _; simp, Nat.le_refl _, by unfold maxLen; omega, rfl, rfl⟩⟩
theorem AOwn.below {w w' : World} {B : Nat} {v : Value} {l : List Ask} (h : AOwn B w v l) (hb : Below w.heap.size w w') : AOwn B w' v l :=
 h.kept (grownBy_below (grownBy_refl w none) hb) (by by_cases e : v.ownBlock = none; exact .inl e; exact .inr e)
theorem AOwn.base {w : World} {B B' : Nat} {v : Value} {l : List Ask} (h : AOwn B w v l) (hb : B' ≤ B) : AOwn B' w v l := by
 obtain ⟨h1, h2⟩ := h
 refine ⟨h1, ?_⟩
 rcases h2 with h2 | ⟨g, cap, cur, a, b, c⟩
 ·exact .inl h2
 ·exact .inr ⟨g, cap, cur, a, Nat.le_trans hb b, c⟩
theorem AOwn.row {w : World} {B : Nat} {v : Value} {l : List Ask} (h : AOwn B w v l) : ∃ ao cap, v = .slice ao l.length cap ∧ AskRow w ao l.length l ∧ l.length ≤ cap ∧ (l ≠ [] → ∃ g cur, ao = some ⟨g, 0, none⟩ ∧ B ≤ g ∧ w.heap[g]? = some (.cells cur 106 (0, 0)) ∧ cur.size = cap * 5) := by
 rcases h.2 with ⟨rfl, h0⟩ | ⟨g, cap, cur, rfl, h1, h2, h3, h4, h5, h6⟩
 ·exact ⟨none, 0, by rw [h0], ⟨rfl, .inl h0⟩, by omega, fun hn => absurd (List.length_eq_zero_iff.1 h0) hn⟩
 ·refine ⟨some ⟨g, 0, none⟩, cap, rfl, ⟨rfl, .inr ⟨g, 0, rfl, fun i hi => ?_⟩⟩, h3, fun _ => ⟨g, cur, rfl, h1, h2, h5⟩⟩
  obtain ⟨a, b, c, d, e⟩ := acells_at l i hi
  have k : ∀ j (v : Value), j < l.length * 5 → (acells l)[j]? = some v → w.cell? ⟨g, j, none⟩ = some v := fun j v hj hv => by
   rw [← h6, List.getElem?_take_of_lt hj] at hv
   simp [World.cell?, h2]
   simpa using hv
  unfold AskAt
  rw [Nat.zero_add]
  exact ⟨k _ _ (by omega) a, k _ _ (by omega) b, k _ _ (by omega) c, k _ _ (by omega) d, k _ _ (by omega) e⟩
theorem Tryz.infoA : (Tryz.prog.info? 106).map (fun i => (i.zero, i.size, i.bytes)) = some (some (.agg #[.int .i64 0, .int .i64 0, .int .i64 0, .string ByteArray.empty, .int .i64 0]), 5, 48) := by kernel_rfl

set_option maxRecDepth 100000 in
set_option maxHeartbeats 2000000 in
theorem cloneAsk_any (ao : Option Addr) (len cap : Nat) (l : List Ask) (w : World) (h : AskRow w ao len l) (hl : len ≤ 1048576) :
  Calls Tryz.prog 109 #[.slice ao len cap] w fun e w' => ∃ v, e = .returned v ∧ AOwn w.heap.size w' v l ∧ Below w.heap.size w w' := by
 obtain ⟨i0, hi, hz0, hz1, hz2⟩ := info_parts Tryz.infoA
 cases ao with
 | none =>
  have hn : len = 0 := by rcases h.2 with h | ⟨b, off, e, _⟩; exact h; cases e
  subst hn
  have hl0 : l = [] := List.length_eq_zero_iff.1 h.1.symm
  subst hl0
  have hnl : ∀ wx, (binOp .eql 39 (.slice none 0 cap) (.slice none 0 0)).run Tryz.prog wx = .ok (.bool true) wx := fun wx => Lib.run_eql_slice_nil wx _ _ none 0 cap 0 0 Tryz.underlying39
  clear h hl
  go_enter Tryz.func109, Tryz.ntmps109
  go_wp2
  go_ret
  exact ⟨_, rfl, aown_nil _ _, Below.refl _ _⟩
 | some ad =>
  have hnew : ∀ j u, (acells l)[j]? = some u → (w.alloc (.cells #[] 106)).cell? (ad.add j) = some u := fun j u hj => by
   have hjl : j < l.length * 5 := by rw [← acells_len]; exact (List.getElem?_eq_some_iff.1 hj).1
   rcases h.2 with h0 | ⟨b, off, e, _⟩
   ·have := h.1; omega
   ·cases e
    have := acells_row (h.below (below_al (Below.refl _ w) (.cells #[] 106))) j u hj
    rw [Lib.add_plain]
    exact this
  have HNW := hide hnew
  have HLN := hide h.1
  have hown := aown_empty w
  have hll : (acells l).length = len * 5 := by rw [acells_len, h.1]
  have hone := acells_one l
  have hnl : ∀ wx, (binOp .eql 39 (.slice (some ad) len cap) (.slice none 0 0)).run Tryz.prog wx = .ok (.bool false) wx := fun wx => Lib.run_eql_slice_nil wx _ _ (some ad) len cap 0 0 Tryz.underlying39
  clear h hnew
  go_enter Tryz.func109, Tryz.ntmps109
  go_wp2_with (at_builtin; refine wpList_append_own _ rfl _ _ 39 rfl w.heap.size 106 i0 (.agg #[.int .i64 0, .int .i64 0, .int .i64 0, .string ByteArray.empty, .int .i64 0]) 5 48 Tryz.underlying39 hi hz0 hz1 hz2 rfl (by decide) _ _ _ rfl hown ad len cap (acells l) rfl hll (unhide HNW) hone ?c3 ?c4 ?c5 ?_)
  case c3 => unfold maxLen; omega
  case c4 => omega
  case c5 => simp
  intro v' w3 hown' hgrow _
  have HO := hide (show AOwn w.heap.size w3 v' l by
   unfold AOwn
   rw [← unhide HLN]
   exact hown')
  have HB := hide (show Below w.heap.size w w3 from (below_al (Below.refl _ w) (.cells #[] 106)).grown hgrow (by simp) (fun k e => by simp [Value.ownBlock] at e; omega))
  clear hown' hgrow hown hone hll
  go_wp2
  go_ret
  exact ⟨_, rfl, unhide HO, unhide HB⟩
theorem set_idem {arr : Array Value} {j : Nat} {x : Value} (h : arr[j]? = some x) : arr.setIfInBounds j x = arr := by
 apply Array.ext
 ·simp
 ·intro i h1 h2
  rw [Array.getElem_setIfInBounds]
  split
  ·rename_i e
   subst e
   rw [Array.getElem?_eq_getElem h2] at h
   exact (Option.some.inj h).symm
  ·rfl
/-- a cell that is written with what stands there -/
theorem AOwn.same {w : World} {B g n cap j : Nat} {x : Value} {l : List Ask} (h : AOwn B w (.slice (some ⟨g, 0, none⟩) n cap) l) (hc : w.cell? ⟨g, j, none⟩ = some x) : AOwn B (w.setCell ⟨g, j, none⟩ x) (.slice (some ⟨g, 0, none⟩) n cap) l ∧ B ≤ g := by
 obtain ⟨h1, h2⟩ := h
 rcases h2 with ⟨e, _⟩ | ⟨g', cap', cur, e, h3, h4, h5⟩
 ·cases e
 ·cases e
  have hx : cur[j]? = some x := by simpa [World.cell?, h4] using hc
  refine ⟨⟨h1, .inr ⟨g, cap, cur, rfl, h3, ?_, h5⟩⟩, h3⟩
  have := heap_setCell_same w g j _ _ x h4
  rw [set_idem hx] at this
  exact this
theorem AOwn.other3 {w : World} {B : Nat} {v : Value} {l : List Ask} (h : AOwn B w v l) (k j : Nat) (x : Value) (hk : k < B) : AOwn B (w.setCell ⟨k, j, none⟩ x) v l := by
 obtain ⟨h1, h2⟩ := h
 refine ⟨h1, ?_⟩
 rcases h2 with h2 | ⟨g, cap, cur, a, b, c, d⟩
 ·exact .inl h2
 ·exact .inr ⟨g, cap, cur, a, b, (heap_setCell_other w ⟨k, j, none⟩ g x (show g ≠ k by omega)).trans c, d⟩

set_option maxRecDepth 100000 in
set_option maxHeartbeats 4000000 in
theorem copyOfApp_any (id : Int) (qu : List UInt8) (ao : Option Addr) (len cap : Nat) (l : List Ask) (w : World) (h : AskRow w ao len l) (hl : len ≤ 1048576) (hq : qu.length ≤ 1048576) (hn : ∀ q ∈ l, q.node.length ≤ 1048576) :
  Calls Tryz.prog 57 #[applv id qu ao len cap] w fun e w' => ∃ v, e = .returned (.agg #[.int .i64 id, .string (bs qu), v]) ∧ AOwn w.heap.size w' v l ∧ Below w.heap.size w w' := by
 have HN := hide hn
 have hB := below_al (below_al (Below.refl _ w) (.cells #[.int .i64 id, .string (bs qu), .slice ao len cap] 41)) (.cells #[.int .i64 0, .string ByteArray.empty, .slice none 0 0] 41)
 have CC := hide (cloneAsk_any ao len cap l _ (h.below hB) hl)
 have HB0 := hide hB
 have K0 := hide ((blk_new w #[.int .i64 id, .string (bs qu), .slice ao len cap] 41).al (.cells #[.int .i64 0, .string ByteArray.empty, .slice none 0 0] 41))
 have K1 := hide (show Blk _ (w.heap.size + 1) #[.int .i64 0, .string ByteArray.empty, .slice none 0 0] 41 by have := blk_new (w.alloc (.cells #[.int .i64 id, .string (bs qu), .slice ao len cap] 41)) #[.int .i64 0, .string ByteArray.empty, .slice none 0 0] 41; rwa [al_size] at this)
 have hll := hide h.1
 have hsq : (bs qu).size ≤ 281474976710656 := by rw [bs_size]; omega
 clear h hn hB
 go_enter Tryz.func57, Tryz.ntmps57
 go_wp2_with fail
 refine (unhide CC).mono ?_
 rintro e w1 ⟨v, rfl, ho, hb⟩
 have HB1 := hide (below_on (unhide HB0) hb)
 have P0 := hide ((unhide K0).below hb)
 have P1 := hide ((unhide K1).below hb)
 have hsz1 : w.heap.size + 2 ≤ w1.heap.size := by have := hb.size; rw [al_size, al_size] at this; omega
 have HO := hide (ho.base (B' := w.heap.size + 2) (by rw [al_size, al_size]; omega))
 obtain ⟨xo, xc, rfl, _, hxc, hxg⟩ := ho.row
 obtain ⟨n, hnn⟩ : ∃ n, l.length = n := ⟨_, rfl⟩
 have HLN := hide hnn
 have hn2 : n ≤ 1048576 := by have := unhide hll; omega
 rw [hnn] at HO hxc ⊢
 clear ho hb CC HB0 K0 K1 hnn hxg
 go_wp2
 go_loopw [10] (fun i wr => ∃ (k : Nat), k ≤ n ∧ i = .int .i64 k ∧ Hid (AOwn (w.heap.size + 2) wr (.slice xo n xc) l) ∧ Hid (Below (w.heap.size + 2) w1 wr)) (fun i _ => n - (intOf i).toNat)
 case atStart => exact ⟨0, Nat.zero_le _, rfl, HO, hide (Below.refl _ _)⟩
 case round =>
  obtain ⟨k, hk, rfl, HOr, HBr⟩ := hrel
  by_cases hlt : k < n
  ·have hkl : k < l.length := by have := unhide HLN; omega
   obtain ⟨xo', xc', e, hrow, _, hg⟩ := (unhide HOr).row
   obtain ⟨g, cur, rfl, hg1, hg2, hg3⟩ := hg (by intro e; rw [e] at hkl; simp at hkl)
   rw [unhide HLN] at e hrow
   cases e
   obtain ⟨b', off', e', hat⟩ := hrow.at hlt
   cases e'
   have c3 := (hat hkl).2.2.2.1
   simp only [Nat.zero_add] at c3
   have hnd := unhide HN l[k] (List.getElem_mem _)
   obtain ⟨nd, hs⟩ : ∃ s, l[k].node = s := ⟨_, rfl⟩
   rw [hs] at c3 hnd
   have hsn : (bs nd).size ≤ 281474976710656 := by rw [bs_size]; omega
   have k0 : (0 : Int) ≤ k := by omega
   have k1 : (k : Int) < n := by omega
   have hgs : g < wr.heap.size := lt_of_block hg2
   clear hat hrow hg2 hg3 hs hkl
   go_wp2_with fail
   refine (clone_any (bs nd) _ hsn).mono ?_
   rintro e w2 ⟨rfl, hb⟩
   have HO2 := hide ((unhide HOr).below hb)
   have c3' := (hb.cell (p := ⟨g, k * 5 + 3, none⟩) hgs).trans c3
   have hsame := (unhide HO2).same c3'
   have f3 : w2.frozen? ⟨g, k * 5 + 3, none⟩ = false := by
    rcases (unhide HO2).2 with ⟨e, _⟩ | ⟨g', cap', cur', e, _, h4, _⟩
    ·cases e
    ·cases e; simp [World.frozen?, h4]
   have HS := hide hsame
   have HB2 := hide (show Below (w.heap.size + 2) w1 (w2.setCell ⟨g, k * 5 + 3, none⟩ (.string (bs nd))) from ((unhide HBr).trans (hb.mono (by have := (unhide HBr).size; omega))).setCell (by exact hsame.2) _)
   clear hb hsame HOr HBr HO2 c3
   go_wp2
   go_roundw
   case rel => exact ⟨k + 1, by omega, by go_num, hide (unhide HS).1, HB2⟩
   case measure => simp [intOf]; omega
  ·have q0 := (show Blk wr w.heap.size _ 41 from ((unhide HBr).block _ (by omega)).trans (unhide P0))
   have q1 := (show Blk wr (w.heap.size + 1) _ 41 from ((unhide HBr).block _ (by omega)).trans (unhide P1))
   have HQ1 := hide q1
   have HBw := hide (show Below w.heap.size w wr from (unhide HB1).trans ((unhide HBr).mono (by omega)))
   have hwr : w.heap.size + 2 ≤ wr.heap.size := by have := (unhide HBr).size; omega
   have HQ0 := hide q0
   have a0 := q0.at 0
   have a1 := q0.at 1
   simp at a0 a1
   have CL := hide (fun wx => clone_any (bs qu) wx hsq)
   clear q0 q1
   go_wp2_with fail
   go_region_with (go_at_call 110; refine (unhide CL _).mono ?_; rintro e w2 ⟨rfl, hb⟩; have HW2 := hide (below_on (Below.refl _ wr).drew hb); have b0 := ((unhide HQ0).below (unhide HW2)).at 0; have b1 := ((unhide HQ0).below (unhide HW2)).at 1; have T2 := (unhide HQ1).below (unhide HW2); have t0 := T2.at 0; have t1 := T2.at 1; have t2 := T2.at 2; have tf0 := T2.f 0; have tf1 := T2.f 1; have tf2 := T2.f 2; simp at b0 b1 t0 t1 t2; have HT2 := hide T2; clear T2 hb)
   all_goals go_wp2
   all_goals
    have X1 := (((unhide HT2).set 0 (.int .i64 id)).set 1 (.string (bs qu))).set 2 (.slice xo n xc)
    have x0 := X1.at 0
    have x1 := X1.at 1
    have x2 := X1.at 2
    simp at x0 x1 x2
    refine bodyPost_ret (v := .agg #[.int .i64 id, .string (bs qu), .slice xo n xc]) (by simp [results, Tryz.results57, go_sem, x0, x1, x2]) rfl ⟨_, rfl, ?_, ?_⟩
    ·exact ((((((unhide HOr).below (unhide HW2)).other3 (w.heap.size + 1) 0 (.int .i64 id) (by omega)).other3 (w.heap.size + 1) 1 (.string (bs qu)) (by omega)).other3 (w.heap.size + 1) 2 (.slice xo n xc) (by omega))).base (by omega)
    ·exact below_sc (below_sc (below_sc (below_on (unhide HBw) (unhide HW2)) _ _ _ (by omega)) _ _ _ (by omega)) _ _ _ (by omega)
end Go.Proofs.YtbkchepelhkjlaaGreat

/-
 Lists of queues that a call gathers, one behind the other.
-/
namespace Go.Proofs.YtbkchepelhkjlaaGreat
open Go.RowKit
set_option linter.unusedVariables false
abbrev qcell (q : Q) : List Value := [.string (bs q.name), .string (bs q.parent), .int .i64 q.due, .int .i64 q.most]
def qcells : List Q → List Value
 | [] => []
 | q :: t => qcell q ++ qcells t
theorem qcells_len : ∀ l : List Q, (qcells l).length = l.length * 4
 | [] => rfl
 | q :: t => by rw [qcells, List.length_append, qcells_len t]; simp; omega
theorem qcells_at : ∀ (l : List Q) (i : Nat) (h : i < l.length), (qcells l)[i * 4]? = some (.string (bs l[i].name)) ∧ (qcells l)[i * 4 + 1]? = some (.string (bs l[i].parent)) ∧ (qcells l)[i * 4 + 2]? = some (.int .i64 l[i].due) ∧ (qcells l)[i * 4 + 3]? = some (.int .i64 l[i].most)
 | q :: t, 0, _ => ⟨rfl, rfl, rfl, rfl⟩
 | q :: t, i + 1, h => by
  have e := qcells_at t i (by simpa using h)
  have k : ∀ j, (qcells (q :: t))[(i + 1) * 4 + j]? = (qcells t)[i * 4 + j]? := fun j => by
   rw [qcells, show (i + 1) * 4 + j = (qcell q).length + (i * 4 + j) by simp; omega, List.getElem?_append_right (by omega)]
   congr 1
   omega
  have k0 := k 0
  simp only [Nat.add_zero] at k0
  rw [k0, k 1, k 2, k 3]
  simpa using e
/-- v is a list of these queues, in memory of its own from block B on -/
def QOwn (B : Nat) (w : World) (v : Value) (l : List Q) : Prop := w.ownsRow B 59 4 v l.length (qcells l)
theorem qown_nil (B : Nat) (w : World) : QOwn B w (.slice none 0 0) [] := World.ownsRow_nil _ _ _ _
theorem qown_empty (w : World) : QOwn w.heap.size (w.alloc (.cells #[] 59)) (.slice (some ⟨w.heap.size, 0, none⟩) 0 0) [] :=
 ⟨rfl, .inr ⟨w.heap.size, 0, #[], rfl, Nat.le_refl _, by show (w.heap.push _)[w.heap.size]? = _; simp, Nat.le_refl _, by unfold maxLen; omega, rfl, rfl⟩⟩
theorem QOwn.below {w w' : World} {B : Nat} {v : Value} {l : List Q} (h : QOwn B w v l) (hb : Below w.heap.size w w') : QOwn B w' v l :=
 h.kept (grownBy_below (grownBy_refl w none) hb) (by by_cases e : v.ownBlock = none; exact .inl e; exact .inr e)
theorem QOwn.row {w : World} {B : Nat} {v : Value} {l : List Q} (h : QOwn B w v l) : ∃ ao cap, v = .slice ao l.length cap ∧ QRow w ao l.length l ∧ l.length ≤ cap := by
 rcases h.2 with ⟨rfl, h0⟩ | ⟨g, cap, cur, rfl, h1, h2, h3, h4, h5, h6⟩
 ·exact ⟨none, 0, by rw [h0], ⟨rfl, .inl h0⟩, by omega⟩
 ·refine ⟨some ⟨g, 0, none⟩, cap, rfl, ⟨rfl, .inr ⟨g, 0, rfl, fun i hi => ?_⟩⟩, h3⟩
  obtain ⟨a, b, c, d⟩ := qcells_at l i hi
  have k : ∀ j (v : Value), j < l.length * 4 → (qcells l)[j]? = some v → w.cell? ⟨g, j, none⟩ = some v := fun j v hj hv => by
   rw [← h6, List.getElem?_take_of_lt hj] at hv
   simp [World.cell?, h2]
   simpa using hv
  unfold QAt
  rw [Nat.zero_add]
  exact ⟨k _ _ (by omega) a, k _ _ (by omega) b, k _ _ (by omega) c, k _ _ (by omega) d⟩
theorem QOwn.some {w : World} {B : Nat} {v : Value} {l : List Q} (h : QOwn B w v l) (hl : l ≠ []) : ∃ g cap, v = .slice (some ⟨g, 0, none⟩) l.length cap ∧ QAny w 59 g cap ∧ QRow w (some ⟨g, 0, none⟩) l.length l ∧ l.length ≤ cap ∧ B ≤ g := by
 obtain ⟨ao, cap, e, hr, hc⟩ := h.row
 rcases h.2 with ⟨rfl, h0⟩ | ⟨g, cap', cur, rfl, h1, h2, h3, h4, h5, h6⟩
 ·exact absurd (List.eq_nil_of_length_eq_zero h0) hl
 ·simp only [Value.slice.injEq] at e
  obtain ⟨rfl, _, rfl⟩ := e
  exact ⟨g, cap', rfl, ⟨cur, h2, by omega, fun i hi => absurd hi (by simp)⟩, hr, hc, h1⟩
theorem Tryz.infoQ : (Tryz.prog.info? 59).map (fun i => (i.zero, i.size, i.bytes)) = some (some (.agg #[.string ByteArray.empty, .string ByteArray.empty, .int .i64 0, .int .i64 0]), 4, 48) := by kernel_rfl
end Go.Proofs.YtbkchepelhkjlaaGreat

/-
 Lists of queues copied: the library's Clone of queues, copyOfQueues; walks over the dump.
-/
namespace Go.Proofs.YtbkchepelhkjlaaGreat
open Go.RowKit
set_option linter.unusedVariables false
theorem qcells_row {w : World} {b off len : Nat} {l : List Q} (h : QRow w (some ⟨b, off, none⟩) len l) : ∀ j u, (qcells l)[j]? = some u → w.cell? ⟨b, off + j, none⟩ = some u := fun j u hj => by
 have hjl : j < l.length * 4 := by rw [← qcells_len]; exact (List.getElem?_eq_some_iff.1 hj).1
 obtain ⟨h1, h2⟩ := h
 rcases h2 with h2 | ⟨b', off', e, h4⟩
 ·omega
 ·cases e
  have hi : j / 4 < l.length := by omega
  obtain ⟨a0, a1, a2, a3⟩ := qcells_at l (j / 4) hi
  obtain ⟨c0, c1, c2, c3⟩ := h4 (j / 4) hi
  rcases (show j % 4 = 0 ∨ j % 4 = 1 ∨ j % 4 = 2 ∨ j % 4 = 3 by omega) with e | e | e | e
  ·rw [show j = j / 4 * 4 by omega] at hj ⊢; rw [a0] at hj; cases hj; exact c0
  ·rw [show j = j / 4 * 4 + 1 by omega] at hj ⊢; rw [a1] at hj; cases hj; rw [← Nat.add_assoc]; exact c1
  ·rw [show j = j / 4 * 4 + 2 by omega] at hj ⊢; rw [a2] at hj; cases hj; rw [← Nat.add_assoc]; exact c2
  ·rw [show j = j / 4 * 4 + 3 by omega] at hj ⊢; rw [a3] at hj; cases hj; rw [← Nat.add_assoc]; exact c3
theorem qcells_one : ∀ (l : List Q), ∀ u ∈ qcells l, u.oneCell' = true
 | [], u, h => by simp [qcells] at h
 | q :: t, u, h => by
  rw [qcells, List.mem_append] at h
  rcases h with h | h
  ·simp at h
   rcases h with rfl | rfl | rfl | rfl <;> rfl
  ·exact qcells_one t u h
theorem qown_base {w : World} {B B' : Nat} {v : Value} {l : List Q} (h : QOwn B w v l) (hb : B' ≤ B) : QOwn B' w v l := by
 obtain ⟨h1, h2⟩ := h
 refine ⟨h1, ?_⟩
 rcases h2 with h2 | ⟨g, cap, cur, a, b, c⟩
 ·exact .inl h2
 ·exact .inr ⟨g, cap, cur, a, Nat.le_trans hb b, c⟩
theorem qown_rowx {w : World} {B : Nat} {v : Value} {l : List Q} (h : QOwn B w v l) : ∃ ao cap, v = .slice ao l.length cap ∧ QRow w ao l.length l ∧ l.length ≤ cap ∧ (l ≠ [] → ∃ g cur, ao = some ⟨g, 0, none⟩ ∧ B ≤ g ∧ w.heap[g]? = some (.cells cur 59 (0, 0)) ∧ cur.size = cap * 4) := by
 obtain ⟨ao, cap, e, hr, hc⟩ := h.row
 refine ⟨ao, cap, e, hr, hc, fun hn => ?_⟩
 rcases h.2 with ⟨rfl, h0⟩ | ⟨g, cap', cur, rfl, h1, h2, h3, h4, h5, h6⟩
 ·exact absurd (List.length_eq_zero_iff.1 h0) hn
 ·simp only [Value.slice.injEq] at e
  obtain ⟨rfl, _, rfl⟩ := e
  exact ⟨g, cur, rfl, h1, h2, h5⟩
set_option maxRecDepth 100000 in
set_option maxHeartbeats 2000000 in
theorem cloneQ_any (ao : Option Addr) (len cap : Nat) (l : List Q) (w : World) (h : QRow w ao len l) (hl : len ≤ 1048576) :
  Calls Tryz.prog 114 #[.slice ao len cap] w fun e w' => ∃ v, e = .returned v ∧ QOwn w.heap.size w' v l ∧ Below w.heap.size w w' := by
 obtain ⟨i0, hi, hz0, hz1, hz2⟩ := info_parts Tryz.infoQ
 cases ao with
 | none =>
  have hn : len = 0 := by rcases h.2 with h | ⟨b, off, e, _⟩; exact h; cases e
  subst hn
  have hl0 : l = [] := List.length_eq_zero_iff.1 h.1.symm
  subst hl0
  have hnl : ∀ wx, (binOp .eql 24 (.slice none 0 cap) (.slice none 0 0)).run Tryz.prog wx = .ok (.bool true) wx := fun wx => Lib.run_eql_slice_nil wx _ _ none 0 cap 0 0 Tryz.underlying24
  clear h hl
  go_enter Tryz.func114, Tryz.ntmps114
  go_wp2
  go_ret
  exact ⟨_, rfl, qown_nil _ _, Below.refl _ _⟩
 | some ad =>
  have hnew : ∀ j u, (qcells l)[j]? = some u → (w.alloc (.cells #[] 59)).cell? (ad.add j) = some u := fun j u hj => by
   have hjl : j < l.length * 4 := by rw [← qcells_len]; exact (List.getElem?_eq_some_iff.1 hj).1
   rcases h.2 with h0 | ⟨b, off, e, _⟩
   ·have := h.1; omega
   ·cases e
    have := qcells_row (h.below (below_al (Below.refl _ w) (.cells #[] 59))) j u hj
    rw [Lib.add_plain]
    exact this
  have HNW := hide hnew
  have HLN := hide h.1
  have hown : (w.alloc (.cells #[] 59)).ownsRow w.heap.size 59 4 (.slice (some ⟨w.heap.size, 0, none⟩) 0 0) 0 [] := qown_empty w
  have hll : (qcells l).length = len * 4 := by rw [qcells_len, h.1]
  have hone := qcells_one l
  have hnl : ∀ wx, (binOp .eql 24 (.slice (some ad) len cap) (.slice none 0 0)).run Tryz.prog wx = .ok (.bool false) wx := fun wx => Lib.run_eql_slice_nil wx _ _ (some ad) len cap 0 0 Tryz.underlying24
  clear h hnew
  go_enter Tryz.func114, Tryz.ntmps114
  go_wp2_with (at_builtin; refine wpList_append_own _ rfl _ _ 24 rfl w.heap.size 59 i0 (.agg #[.string ByteArray.empty, .string ByteArray.empty, .int .i64 0, .int .i64 0]) 4 48 Tryz.underlying24 hi hz0 hz1 hz2 rfl (by decide) _ _ _ rfl hown ad len cap (qcells l) rfl hll (unhide HNW) hone ?c3 ?c4 ?c5 ?_)
  case c3 => unfold maxLen; omega
  case c4 => omega
  case c5 => simp
  intro v' w3 hown' hgrow _
  have HO := hide (show QOwn w.heap.size w3 v' l by
   unfold QOwn
   rw [← unhide HLN]
   exact hown')
  have HB := hide (show Below w.heap.size w w3 from (below_al (Below.refl _ w) (.cells #[] 59)).grown hgrow (by simp) (fun k e => by simp [Value.ownBlock] at e; omega))
  clear hown' hgrow hown hone hll
  go_wp2
  go_ret
  exact ⟨_, rfl, unhide HO, unhide HB⟩
theorem set_idemQ {arr : Array Value} {j : Nat} {x : Value} (h : arr[j]? = some x) : arr.setIfInBounds j x = arr := by
 apply Array.ext
 ·simp
 ·intro i h1 h2
  rw [Array.getElem_setIfInBounds]
  split
  ·rename_i e
   subst e
   rw [Array.getElem?_eq_getElem h2] at h
   exact (Option.some.inj h).symm
  ·rfl
/-- a cell that is written with what stands there -/
theorem qown_same {w : World} {B g n cap j : Nat} {x : Value} {l : List Q} (h : QOwn B w (.slice (some ⟨g, 0, none⟩) n cap) l) (hc : w.cell? ⟨g, j, none⟩ = some x) : QOwn B (w.setCell ⟨g, j, none⟩ x) (.slice (some ⟨g, 0, none⟩) n cap) l ∧ B ≤ g := by
 obtain ⟨h1, h2⟩ := h
 rcases h2 with ⟨e, _⟩ | ⟨g', cap', cur, e, h3, h4, h5⟩
 ·cases e
 ·cases e
  have hx : cur[j]? = some x := by simpa [World.cell?, h4] using hc
  refine ⟨⟨h1, .inr ⟨g, cap, cur, rfl, h3, ?_, h5⟩⟩, h3⟩
  have := heap_setCell_same w g j _ _ x h4
  rw [set_idemQ hx] at this
  exact this
theorem qown_other {w : World} {B : Nat} {v : Value} {l : List Q} (h : QOwn B w v l) (k j : Nat) (x : Value) (hk : k < B) : QOwn B (w.setCell ⟨k, j, none⟩ x) v l := by
 obtain ⟨h1, h2⟩ := h
 refine ⟨h1, ?_⟩
 rcases h2 with h2 | ⟨g, cap, cur, a, b, c, d⟩
 ·exact .inl h2
 ·exact .inr ⟨g, cap, cur, a, b, (heap_setCell_other w ⟨k, j, none⟩ g x (show g ≠ k by omega)).trans c, d⟩

set_option maxRecDepth 100000 in
set_option maxHeartbeats 4000000 in
theorem copyOfQueues_any (ao : Option Addr) (len cap : Nat) (l : List Q) (w : World) (h : QRow w ao len l) (hl : len ≤ 1048576) (hn : ∀ q ∈ l, q.name.length ≤ 1048576 ∧ q.parent.length ≤ 1048576) :
  Calls Tryz.prog 60 #[.slice ao len cap] w fun e w' => ∃ v, e = .returned v ∧ QOwn w.heap.size w' v l ∧ Below w.heap.size w w' := by
 have HN := hide hn
 have CC := hide (cloneQ_any ao len cap l w h hl)
 have hll := hide h.1
 clear h hn
 go_enter Tryz.func60, Tryz.ntmps60
 go_wp2_with fail
 refine (unhide CC).mono ?_
 rintro e w1 ⟨v, rfl, ho, hb⟩
 have HB1 := hide hb
 have HO := hide ho
 obtain ⟨xo, xc, rfl, _, hxc, hxg⟩ := (qown_rowx ho)
 obtain ⟨n, hnn⟩ : ∃ n, l.length = n := ⟨_, rfl⟩
 have HLN := hide hnn
 have hn2 : n ≤ 1048576 := by have := unhide hll; omega
 rw [hnn] at HO hxc ⊢
 clear ho hb CC hnn hxg
 go_wp2
 go_loopw [9] (fun i wr => ∃ (k : Nat), k ≤ n ∧ i = .int .i64 k ∧ Hid (QOwn w.heap.size wr (.slice xo n xc) l) ∧ Hid (Below w.heap.size w wr)) (fun i _ => n - (intOf i).toNat)
 case atStart => exact ⟨0, Nat.zero_le _, rfl, HO, HB1⟩
 case round =>
  obtain ⟨k, hk, rfl, HOr, HBr⟩ := hrel
  by_cases hlt : k < n
  ·have hkl : k < l.length := by have := unhide HLN; omega
   obtain ⟨xo', xc', e, hrow, _, hg⟩ := (qown_rowx (unhide HOr))
   obtain ⟨g, cur, rfl, hg1, hg2, hg3⟩ := hg (by intro e; rw [e] at hkl; simp at hkl)
   rw [unhide HLN] at e hrow
   cases e
   obtain ⟨b', off', e', hat⟩ := hrow.at hlt
   cases e'
   have c0 := (hat hkl).1
   have c1 := (hat hkl).2.1
   simp only [Nat.zero_add] at c0 c1
   have hnd := unhide HN l[k] (List.getElem_mem _)
   obtain ⟨⟨na, pa, du, mo⟩, hs⟩ : ∃ s, l[k] = s := ⟨_, rfl⟩
   rw [hs] at c0 c1 hnd
   simp only at c0 c1 hnd
   have hs1 : (bs na).size ≤ 281474976710656 := by rw [bs_size]; omega
   have hs2 : (bs pa).size ≤ 281474976710656 := by rw [bs_size]; omega
   have k0 : (0 : Int) ≤ k := by omega
   have k1 : (k : Int) < n := by omega
   have hgs : g < wr.heap.size := lt_of_block hg2
   clear hat hrow hg2 hg3 hs hkl hnd
   go_wp2_with fail
   refine (clone_any (bs na) _ hs1).mono ?_
   rintro e w2 ⟨rfl, hb⟩
   have HO2 := hide ((unhide HOr).below hb)
   have c0' := (hb.cell (p := ⟨g, k * 4, none⟩) hgs).trans c0
   have c1' := (hb.cell (p := ⟨g, k * 4 + 1, none⟩) hgs).trans c1
   have hsame := (qown_same (unhide HO2) c0')
   have hfz : ∀ j, w2.frozen? ⟨g, j, none⟩ = false := fun j => by
    rcases (unhide HO2).2 with ⟨e, _⟩ | ⟨g', cap', cur', e, _, h4, _⟩
    ·cases e
    ·cases e; simp [World.frozen?, h4]
   have f0 := hfz (k * 4)
   have HB2 := hide (show Below w.heap.size w (w2.setCell ⟨g, k * 4, none⟩ (.string (bs na))) from (below_on (unhide HBr) hb).setCell (by exact hsame.2) _)
   have hg2' : g < w2.heap.size := Nat.lt_of_lt_of_le hgs hb.size
   have d1 : (w2.setCell ⟨g, k * 4, none⟩ (.string (bs na))).cell? ⟨g, k * 4 + 1, none⟩ = some (.string (bs pa)) := cell_keep c1' (by omega)
   have HS := hide hsame
   obtain ⟨W3, hW3⟩ : ∃ W, w2.setCell ⟨g, k * 4, none⟩ (.string (bs na)) = W := ⟨_, rfl⟩
   rw [hW3] at HB2 d1 HS
   have hgW : g < W3.heap.size := cell_lt d1
   clear hb hsame HOr HBr HO2 c0 c1 c1' hfz
   go_wp2_with fail
   refine (clone_any (bs pa) _ hs2).mono ?_
   rintro e w4 ⟨rfl, hb⟩
   have HO4 := hide ((unhide HS).1.below hb)
   have d1' := (hb.cell (p := ⟨g, k * 4 + 1, none⟩) hgW).trans d1
   have hsame := (qown_same (unhide HO4) d1')
   have f1 : w4.frozen? ⟨g, k * 4 + 1, none⟩ = false := by
    rcases (unhide HO4).2 with ⟨e, _⟩ | ⟨g', cap', cur', e, _, h4, _⟩
    ·cases e
    ·cases e; simp [World.frozen?, h4]
   have HB4 := hide (show Below w.heap.size w (w4.setCell ⟨g, k * 4 + 1, none⟩ (.string (bs pa))) from (below_on (unhide HB2) hb).setCell (by exact hsame.2) _)
   have HS4 := hide hsame.1
   clear hb hsame HS HO4 HB2 c0' d1 hW3 f0
   go_wp2
   go_roundw
   case rel => exact ⟨k + 1, by omega, by go_num, HS4, HB4⟩
   case measure => simp [intOf]; omega
  ·have k1 : ¬ (k : Int) < n := by omega
   go_wp2
   go_ret
   exact ⟨_, rfl, unhide HOr, unhide HBr⟩
end Go.Proofs.YtbkchepelhkjlaaGreat

/-
 Lists that lie in blocks of their own, of each kind: what calls and stores elsewhere leave of them.
-/
namespace Go.Proofs.YtbkchepelhkjlaaGreat
open Go.RowKit
set_option linter.unusedVariables false
theorem Own1.grow {B E : Nat} {w w' : World} {t : TypeId} {sz n : Nat} {ao : Option Addr} (h : Own1 B E w t sz ao n) (hb : Below w.heap.size w w') (hE : E ≤ w.heap.size) : Own1 B w'.heap.size w' t sz ao n := (h.below hb).mono (Nat.le_refl _) (Nat.le_trans hE hb.size)
theorem not_in {B E k : Nat} {w : World} {t : TypeId} {sz n : Nat} {ao : Option Addr} (h : Own1 B E w t sz ao n) (hk : k < B ∨ E ≤ k) : ∀ i, inR ao n i → ¬ (i = k) := fun i hi e => by
 obtain ⟨h1, h2, _⟩ := h.lies i hi
 omega

/-- queues in a block of their own -/
def QHas (B : Nat) (w : World) (ao : Option Addr) (n : Nat) (l : List Q) : Prop := QRow w ao n l ∧ Own1 B w.heap.size w 59 4 ao n
theorem QHas.below {B n : Nat} {w w' : World} {ao : Option Addr} {l : List Q} (h : QHas B w ao n l) (hb : Below w.heap.size w w') : QHas B w' ao n l := ⟨h.1.below hb, h.2.grow hb (Nat.le_refl _)⟩
theorem QHas.sc {B n k j : Nat} {v : Value} {w : World} {ao : Option Addr} {l : List Q} (h : QHas B w ao n l) (hk : k < B) : QHas B (w.setCell ⟨k, j, none⟩ v) ao n l :=
 ⟨h.1.mks (Mks.one (fun x => x = k) w k j v rfl) (not_in h.2 (.inl hk)), by rw [set_size]; exact h.2.mks (Mks.one (fun x => x = k) w k j v rfl)⟩
theorem QOwn.has {B : Nat} {w : World} {v : Value} {l : List Q} (h : QOwn B w v l) : ∃ ao cap, v = .slice ao l.length cap ∧ l.length ≤ cap ∧ QHas B w ao l.length l := by
 obtain ⟨ao, cap, e, hr, hc, hg⟩ := qown_rowx h
 refine ⟨ao, cap, e, hc, hr, ?_⟩
 by_cases hz : l = []
 ·exact .inl (by rw [hz]; rfl)
 ·obtain ⟨g, cur, e, h1, h2, h3⟩ := hg hz
  exact .inr ⟨g, cap, e, h1, lt_of_block h2, ⟨cur, h2, h3⟩, hc⟩

/-- machines in a block of their own -/
def MHas (B : Nat) (w : World) (ao : Option Addr) (n : Nat) (l : List Mac) : Prop := MacRow w ao n l ∧ Own1 B w.heap.size w 56 4 ao n
theorem MHas.below {B n : Nat} {w w' : World} {ao : Option Addr} {l : List Mac} (h : MHas B w ao n l) (hb : Below w.heap.size w w') : MHas B w' ao n l := ⟨h.1.below hb, h.2.grow hb (Nat.le_refl _)⟩
theorem MHas.sc {B n k j : Nat} {v : Value} {w : World} {ao : Option Addr} {l : List Mac} (h : MHas B w ao n l) (hk : k < B) : MHas B (w.setCell ⟨k, j, none⟩ v) ao n l :=
 ⟨h.1.mks (Mks.one (fun x => x = k) w k j v rfl) (not_in h.2 (.inl hk)), by rw [set_size]; exact h.2.mks (Mks.one (fun x => x = k) w k j v rfl)⟩
theorem mown_has {B : Nat} {w : World} {v : Value} {l : List Mac} (h : MOwn B w v l) : ∃ ao cap, v = .slice ao l.length cap ∧ l.length ≤ cap ∧ MHas B w ao l.length l := by
 obtain ⟨ao, cap, e, hr, hc, hg⟩ := mown_row h
 refine ⟨ao, cap, e, hc, hr, ?_⟩
 by_cases hz : l = []
 ·exact .inl (by rw [hz]; rfl)
 ·obtain ⟨g, cur, e, h1, h2, h3⟩ := hg hz
  exact .inr ⟨g, cap, e, h1, lt_of_block h2, ⟨cur, h2, h3⟩, hc⟩

/-- containers in a block of their own -/
def CHas (B : Nat) (w : World) (ao : Option Addr) (n : Nat) (l : List Con) : Prop := ConRow w ao n l ∧ Own1 B w.heap.size w 70 5 ao n
theorem CHas.below {B n : Nat} {w w' : World} {ao : Option Addr} {l : List Con} (h : CHas B w ao n l) (hb : Below w.heap.size w w') : CHas B w' ao n l := ⟨h.1.below hb, h.2.grow hb (Nat.le_refl _)⟩
theorem CHas.sc {B n k j : Nat} {v : Value} {w : World} {ao : Option Addr} {l : List Con} (h : CHas B w ao n l) (hk : k < B) : CHas B (w.setCell ⟨k, j, none⟩ v) ao n l :=
 ⟨h.1.mks (Mks.one (fun x => x = k) w k j v rfl) (not_in h.2 (.inl hk)), by rw [set_size]; exact h.2.mks (Mks.one (fun x => x = k) w k j v rfl)⟩
theorem CHas.base {B B' n : Nat} {w : World} {ao : Option Addr} {l : List Con} (h : CHas B w ao n l) (hb : B' ≤ B) : CHas B' w ao n l := ⟨h.1, h.2.mono hb (Nat.le_refl _)⟩
theorem cown_has {B : Nat} {w : World} {v : Value} {l : List Con} (h : COwn B w v l) : ∃ ao cap, v = .slice ao l.length cap ∧ l.length ≤ cap ∧ CHas B w ao l.length l := by
 obtain ⟨ao, cap, e, hr, hc, hg⟩ := cown_row h
 refine ⟨ao, cap, e, hc, hr, ?_⟩
 by_cases hz : l = []
 ·exact .inl (by rw [hz]; rfl)
 ·obtain ⟨g, cur, e, h1, h2, h3⟩ := hg hz
  exact .inr ⟨g, cap, e, h1, lt_of_block h2, ⟨cur, h2, h3⟩, hc⟩

/-- heads of applications in a block of their own -/
def PHas (B : Nat) (w : World) (ao : Option Addr) (n : Nat) (hs : List AV) : Prop := AVRow w ao n hs ∧ Own1 B w.heap.size w 41 3 ao n
theorem PHas.below {B n : Nat} {w w' : World} {ao : Option Addr} {l : List AV} (h : PHas B w ao n l) (hb : Below w.heap.size w w') : PHas B w' ao n l := ⟨h.1.below hb, h.2.grow hb (Nat.le_refl _)⟩
theorem PHas.sc {B n k j : Nat} {v : Value} {w : World} {ao : Option Addr} {l : List AV} (h : PHas B w ao n l) (hk : k < B) : PHas B (w.setCell ⟨k, j, none⟩ v) ao n l :=
 ⟨h.1.mks (Mks.one (fun x => x = k) w k j v rfl) (not_in h.2 (.inl hk)), by rw [set_size]; exact h.2.mks (Mks.one (fun x => x = k) w k j v rfl)⟩
theorem pown_has {B : Nat} {w : World} {v : Value} {l : List AV} (h : POwn B w v l) : ∃ ao cap, v = .slice ao l.length cap ∧ l.length ≤ cap ∧ PHas B w ao l.length l := by
 obtain ⟨ao, cap, e, hr, hc, hg⟩ := pown_row h
 refine ⟨ao, cap, e, hc, hr, ?_⟩
 by_cases hz : l = []
 ·exact .inl (by rw [hz]; rfl)
 ·obtain ⟨g, cur, e, h1, h2, h3⟩ := hg hz
  exact .inr ⟨g, cap, e, h1, lt_of_block h2, ⟨cur, h2, h3⟩, hc⟩

/-- the asks of these heads lie each in a block of its own, and are those of these applications -/
structure KHas (B : Nat) (w : World) (ns : List AV) (l : List Appl) : Prop where
 heads : Heads w ns l
 own : ∀ v ∈ ns, Own1 B w.heap.size w 106 5 v.ao v.len
 apart : ns.Pairwise Apart
theorem KHas.below {B : Nat} {w w' : World} {ns : List AV} {l : List Appl} (h : KHas B w ns l) (hb : Below w.heap.size w w') : KHas B w' ns l := ⟨h.heads.below hb, fun v hv => (h.own v hv).grow hb (Nat.le_refl _), h.apart⟩
/-- a store into a block of another type, or below B -/
theorem KHas.sc {B k j : Nat} {v : Value} {w : World} {ns : List AV} {l : List Appl} (h : KHas B w ns l) (hk : k < B ∨ ∃ t N, Cel w t k N ∧ t ≠ 106) : KHas B (w.setCell ⟨k, j, none⟩ v) ns l := by
 have key : ∀ u ∈ ns, ∀ i, inR u.ao u.len i → ¬ (i = k) := fun u hu i hi e => by
  obtain ⟨h1, h2, N, hc⟩ := (h.own u hu).lies i hi
  subst e
  rcases hk with hk | ⟨t, N', hc', ht⟩
  ·omega
  ·exact ht (hc'.type hc)
 refine ⟨⟨h.heads.1, fun i h1 h2 => ?_⟩, fun u hu => ?_, h.apart⟩
 ·obtain ⟨a, b, c, d⟩ := h.heads.2 i h1 h2
  exact ⟨a, b, c.mks (Mks.one (fun x => x = k) w k j v rfl) (key _ (List.getElem_mem h1)), d⟩
 ·rw [set_size]
  exact (h.own u hu).mks (Mks.one (fun x => x = k) w k j v rfl)
theorem KHas.nil (B : Nat) (w : World) : KHas B w [] [] := ⟨⟨rfl, fun i h => absurd h (by simp)⟩, fun v hv => absurd hv (by simp), .nil⟩
theorem aown_has {B : Nat} {w : World} {v : Value} {l : List Ask} (h : AOwn B w v l) : ∃ ao cap, v = .slice ao l.length cap ∧ l.length ≤ cap ∧ AskRow w ao l.length l ∧ Own1 B w.heap.size w 106 5 ao l.length := by
 obtain ⟨ao, cap, e, hr, hc, hg⟩ := h.row
 refine ⟨ao, cap, e, hc, hr, ?_⟩
 by_cases hz : l = []
 ·exact .inl (by rw [hz]; rfl)
 ·obtain ⟨g, cur, e, h1, h2, h3⟩ := hg hz
  exact .inr ⟨g, cap, e, h1, lt_of_block h2, ⟨cur, h2, h3⟩, hc⟩
/-- one more, whose asks lie behind all that was there -/
theorem KHas.snoc {B : Nat} {w w' : World} {ns : List AV} {l : List Appl} (h : KHas B w ns l) (hb : Below w.heap.size w w') (hB : B ≤ w.heap.size) (id : Int) (qu : List UInt8) (ao : Option Addr) (cap : Nat) (k : List Ask) (hc : k.length ≤ cap)
  (hr : AskRow w' ao k.length k) (ho : Own1 w.heap.size w'.heap.size w' 106 5 ao k.length) : KHas B w' (ns ++ [⟨id, qu, ao, k.length, cap⟩]) (l ++ [⟨id, qu, k⟩]) := by
 have h' := h.below hb
 refine ⟨⟨by simp [h.heads.1], fun i h1 h2 => ?_⟩, fun v hv => ?_, ?_⟩
 ·by_cases hi : i < ns.length
  ·have hi' : i < l.length := by rw [← h.heads.1]; exact hi
   rw [List.getElem_append_left hi, List.getElem_append_left hi']
   exact h'.heads.2 i hi hi'
  ·have hi1 : i = ns.length := by simp at h1; omega
   subst hi1
   have hl : ns.length = l.length := h.heads.1
   simp only [List.getElem_append_right (Nat.le_refl _), Nat.sub_self, List.getElem_cons_zero]
   rw [List.getElem_append_right (by omega)]
   simp only [hl, Nat.sub_self, List.getElem_cons_zero]
   exact ⟨trivial, trivial, hr, hc⟩
 ·rcases List.mem_append.1 hv with hv | hv
  ·exact h'.own v hv
  ·simp at hv
   subst hv
   exact ho.mono hB (Nat.le_refl _)
 ·refine List.pairwise_append.2 ⟨h.apart, by simp, fun u hu v hv => ?_⟩
  simp at hv
  subst hv
  rcases h.own u hu with e | ⟨g1, M1, e1, _, h3, _⟩
  ·exact .inl e
  ·rcases ho with e | ⟨g2, M2, e2, h4, _⟩
   ·exact .inr (.inl e)
   ·refine .inr (.inr (fun e => ?_))
    simp only at e
    rw [e1, e2] at e
    cases e
    omega
/-- the row of applications that heads and asks make -/
theorem appl_of {w : World} {ao : Option Addr} {n : Nat} {hs : List AV} {l : List Appl} (h : AVRow w ao n hs) (hh : Heads w hs l) : ApplRow w ao n l := by
 refine ⟨h.1.trans hh.1, ?_⟩
 rcases h.2 with e | ⟨b, off, e, hc⟩
 ·exact .inl e
 ·refine .inr ⟨b, off, e, fun i hi => ?_⟩
  have hi' : i < hs.length := by rw [hh.1]; exact hi
  obtain ⟨a1, a2, a3, a4⟩ := hh.2 i hi' hi
  obtain ⟨c1, c2, c3⟩ := hc i hi'
  rw [a1] at c1
  rw [a2] at c2
  exact ⟨hs[i].ao, hs[i].len, hs[i].cap, c1, c2, c3, a3, a4⟩
/-- the lists of a state, put together -/
theorem sans_of {B : Nat} {w : World} {x : Sls} {s : St} {hs : List AV} (q : QHas B w x.qa x.ql s.qs) (a : PHas B w x.aa x.al hs) (k : KHas B w hs s.apps) (m : MHas B w x.ma x.ml s.ms) (c : CHas B w x.ca x.cl s.cs) (cap : SCap x) (rm : RmS B w.heap.size w x hs) : SAns B w.heap.size w x s hs :=
 ⟨⟨q.1, appl_of a.1 k.heads, m.1, c.1⟩, q.2, a.2, m.2, c.2, a.1, k.heads, k.own, k.apart, cap, rm⟩
end Go.Proofs.YtbkchepelhkjlaaGreat
