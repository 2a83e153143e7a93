/-
  Several texts of this claim in one: Clone, ARow, QOwn (pack.py put them together); each says in its own remark what is proved.
-/
import Derived.Test.YtcplnodfcchdhaaGreatRows
import Derived.Test.YtcplnodfcchdhaaGreatShelf
import Derived.WalkKit
import Derived.Test.YtcplnodfcchdhaaGreatStAll
import Derived.Test.YtcplnodfcchdhaaGreatPackD
import Derived.Laws.AppendOwn
import Derived.Lib.SliceRun
import Derived.Deep.RegionWith
import Derived.Test.YtcplnodfcchdhaaGreatPackA
/-
  What strings.Clone answers: the same text.
-/
namespace Go.Proofs.YtcplnodfcchdhaaGreat
open Go.RowKit
set_option maxHeartbeats 400000 in
theorem clone_any (s : ByteArray) (w : World) (hs : s.size ≤ 281474976710656) :
    Calls Tryz.prog 89 #[.string s] w fun e w' => e = .returned (.string s) ∧ Below w.heap.size w w' := by
  go_enter Tryz.func89, Tryz.ntmps89
  go_wp2_with fail
  refine (Tryz.stringslite_Clone s _ hs).mono ?_
  rintro e w1 ⟨rfl, hb⟩
  have HB : Hid (Below w.heap.size w w1) := hb
  clear hb
  go_wp2
  go_ret
  exact ⟨rfl, HB⟩
end Go.Proofs.YtcplnodfcchdhaaGreat

/-
  Lists of asks that a call gathers: rows of their own; the library's Clone of asks; walks over the dump.
-/
namespace Go.Proofs.YtcplnodfcchdhaaGreat
open Go.RowKit
set_option linter.unusedVariables false
abbrev acell (q : Ask) : List Value := [.int .i64 q.mem, .int .i64 q.cpu, .int .i64 q.count, .string (bs q.node), .int .i64 q.missed]
def acells : List Ask → List Value
  | [] => []
  | q :: t => acell q ++ acells t
theorem acells_len : ∀ l : List Ask, (acells l).length = l.length * 5
  | [] => rfl
  | q :: t => by rw [acells, List.length_append, acells_len t]; simp; omega
theorem acells_at : ∀ (l : List Ask) (i : Nat) (h : i < l.length), (acells l)[i * 5]? = some (.int .i64 l[i].mem) ∧ (acells l)[i * 5 + 1]? = some (.int .i64 l[i].cpu) ∧ (acells l)[i * 5 + 2]? = some (.int .i64 l[i].count) ∧ (acells l)[i * 5 + 3]? = some (.string (bs l[i].node)) ∧ (acells l)[i * 5 + 4]? = some (.int .i64 l[i].missed)
  | q :: t, 0, _ => ⟨rfl, rfl, rfl, rfl, rfl⟩
  | q :: t, i + 1, h => by
    have e := acells_at t i (by simpa using h)
    have k : ∀ j, (acells (q :: t))[(i + 1) * 5 + j]? = (acells t)[i * 5 + j]? := fun j => by
      rw [acells, show (i + 1) * 5 + j = (acell q).length + (i * 5 + j) by simp; omega, List.getElem?_append_right (by omega)]
      congr 1
      omega
    have k0 := k 0
    simp only [Nat.add_zero] at k0
    rw [k0, k 1, k 2, k 3, k 4]
    simpa using e
theorem acells_row {w : World} {b off len : Nat} {l : List Ask} (h : AskRow w (some ⟨b, off, none⟩) len l) : ∀ j u, (acells l)[j]? = some u → w.cell? ⟨b, off + j, none⟩ = some u := fun j u hj => by
  have hjl : j < l.length * 5 := by rw [← acells_len]; exact (List.getElem?_eq_some_iff.1 hj).1
  obtain ⟨h1, h2⟩ := h
  rcases h2 with h2 | ⟨b', off', e, h4⟩
  · omega
  · cases e
    have hi : j / 5 < l.length := by omega
    obtain ⟨a0, a1, a2, a3, a4⟩ := acells_at l (j / 5) hi
    obtain ⟨c0, c1, c2, c3, c4⟩ := h4 (j / 5) hi
    rcases (show j % 5 = 0 ∨ j % 5 = 1 ∨ j % 5 = 2 ∨ j % 5 = 3 ∨ j % 5 = 4 by omega) with e | e | e | e | e
    · rw [show j = j / 5 * 5 by omega] at hj ⊢; rw [a0] at hj; cases hj; exact c0
    · rw [show j = j / 5 * 5 + 1 by omega] at hj ⊢; rw [a1] at hj; cases hj; rw [← Nat.add_assoc]; exact c1
    · rw [show j = j / 5 * 5 + 2 by omega] at hj ⊢; rw [a2] at hj; cases hj; rw [← Nat.add_assoc]; exact c2
    · rw [show j = j / 5 * 5 + 3 by omega] at hj ⊢; rw [a3] at hj; cases hj; rw [← Nat.add_assoc]; exact c3
    · rw [show j = j / 5 * 5 + 4 by omega] at hj ⊢; rw [a4] at hj; cases hj; rw [← Nat.add_assoc]; exact c4
theorem acells_one : ∀ (l : List Ask), ∀ u ∈ acells l, u.oneCell' = true
  | [], u, h => by simp [acells] at h
  | q :: t, u, h => by
    rw [acells, List.mem_append] at h
    rcases h with h | h
    · simp at h
      rcases h with rfl | rfl | rfl | rfl | rfl <;> rfl
    · exact acells_one t u h
/-- v is a list of these asks, in memory of its own from block B on -/
def AOwn (B : Nat) (w : World) (v : Value) (l : List Ask) : Prop := w.ownsRow B 96 5 v l.length (acells l)
theorem aown_nil (B : Nat) (w : World) : AOwn B w (.slice none 0 0) [] := World.ownsRow_nil _ _ _ _
theorem aown_empty (w : World) : w.alloc (.cells #[] 96) |>.ownsRow w.heap.size 96 5 (.slice (some ⟨w.heap.size, 0, none⟩) 0 0) 0 [] :=
  ⟨rfl, .inr ⟨w.heap.size, 0, #[], rfl, Nat.le_refl _, by show (w.heap.push _)[w.heap.size]? = _; simp, Nat.le_refl _, by unfold maxLen; omega, rfl, rfl⟩⟩
theorem AOwn.below {w w' : World} {B : Nat} {v : Value} {l : List Ask} (h : AOwn B w v l) (hb : Below w.heap.size w w') : AOwn B w' v l :=
  h.kept (grownBy_below (grownBy_refl w none) hb) (by by_cases e : v.ownBlock = none; exact .inl e; exact .inr e)
theorem AOwn.base {w : World} {B B' : Nat} {v : Value} {l : List Ask} (h : AOwn B w v l) (hb : B' ≤ B) : AOwn B' w v l := by
  obtain ⟨h1, h2⟩ := h
  refine ⟨h1, ?_⟩
  rcases h2 with h2 | ⟨g, cap, cur, a, b, c⟩
  · exact .inl h2
  · exact .inr ⟨g, cap, cur, a, Nat.le_trans hb b, c⟩
theorem AOwn.row {w : World} {B : Nat} {v : Value} {l : List Ask} (h : AOwn B w v l) : ∃ ao cap, v = .slice ao l.length cap ∧ AskRow w ao l.length l ∧ l.length ≤ cap ∧ (l ≠ [] → ∃ g cur, ao = some ⟨g, 0, none⟩ ∧ B ≤ g ∧ w.heap[g]? = some (.cells cur 96 (0, 0)) ∧ cur.size = cap * 5) := by
  rcases h.2 with ⟨rfl, h0⟩ | ⟨g, cap, cur, rfl, h1, h2, h3, h4, h5, h6⟩
  · exact ⟨none, 0, by rw [h0], ⟨rfl, .inl h0⟩, by omega, fun hn => absurd (List.length_eq_zero_iff.1 h0) hn⟩
  · refine ⟨some ⟨g, 0, none⟩, cap, rfl, ⟨rfl, .inr ⟨g, 0, rfl, fun i hi => ?_⟩⟩, h3, fun _ => ⟨g, cur, rfl, h1, h2, h5⟩⟩
    obtain ⟨a, b, c, d, e⟩ := acells_at l i hi
    have k : ∀ j (v : Value), j < l.length * 5 → (acells l)[j]? = some v → w.cell? ⟨g, j, none⟩ = some v := fun j v hj hv => by
      rw [← h6, List.getElem?_take_of_lt hj] at hv
      simp [World.cell?, h2]
      simpa using hv
    unfold AskAt
    rw [Nat.zero_add]
    exact ⟨k _ _ (by omega) a, k _ _ (by omega) b, k _ _ (by omega) c, k _ _ (by omega) d, k _ _ (by omega) e⟩
theorem Tryz.infoA : (Tryz.prog.info? 96).map (fun i => (i.zero, i.size, i.bytes)) = some (some (.agg #[.int .i64 0, .int .i64 0, .int .i64 0, .string ByteArray.empty, .int .i64 0]), 5, 48) := by kernel_rfl

set_option maxRecDepth 100000 in
set_option maxHeartbeats 2000000 in
theorem cloneAsk_any (ao : Option Addr) (len cap : Nat) (l : List Ask) (w : World) (h : AskRow w ao len l) (hl : len ≤ 1048576) :
    Calls Tryz.prog 88 #[.slice ao len cap] w fun e w' => ∃ v, e = .returned v ∧ AOwn w.heap.size w' v l ∧ Below w.heap.size w w' := by
  obtain ⟨i0, hi, hz0, hz1, hz2⟩ := info_parts Tryz.infoA
  cases ao with
  | none =>
    have hn : len = 0 := by rcases h.2 with h | ⟨b, off, e, _⟩; exact h; cases e
    subst hn
    have hl0 : l = [] := List.length_eq_zero_iff.1 h.1.symm
    subst hl0
    have hnl : ∀ wx, (binOp .eql 39 (.slice none 0 cap) (.slice none 0 0)).run Tryz.prog wx = .ok (.bool true) wx := fun wx => Lib.run_eql_slice_nil wx _ _ none 0 cap 0 0 Tryz.underlying39
    clear h hl
    go_enter Tryz.func88, Tryz.ntmps88
    go_wp2
    go_ret
    exact ⟨_, rfl, aown_nil _ _, Below.refl _ _⟩
  | some ad =>
    have hnew : ∀ j u, (acells l)[j]? = some u → (w.alloc (.cells #[] 96)).cell? (ad.add j) = some u := fun j u hj => by
      have hjl : j < l.length * 5 := by rw [← acells_len]; exact (List.getElem?_eq_some_iff.1 hj).1
      rcases h.2 with h0 | ⟨b, off, e, _⟩
      · have := h.1; omega
      · cases e
        have := acells_row (h.below (below_al (Below.refl _ w) (.cells #[] 96))) j u hj
        rw [Lib.add_plain]
        exact this
    have HNW := hide hnew
    have HLN := hide h.1
    have hown := aown_empty w
    have hll : (acells l).length = len * 5 := by rw [acells_len, h.1]
    have hone := acells_one l
    have hnl : ∀ wx, (binOp .eql 39 (.slice (some ad) len cap) (.slice none 0 0)).run Tryz.prog wx = .ok (.bool false) wx := fun wx => Lib.run_eql_slice_nil wx _ _ (some ad) len cap 0 0 Tryz.underlying39
    clear h hnew
    go_enter Tryz.func88, Tryz.ntmps88
    go_wp2_with (at_builtin; refine wpList_append_own _ rfl _ _ 39 rfl w.heap.size 96 i0 (.agg #[.int .i64 0, .int .i64 0, .int .i64 0, .string ByteArray.empty, .int .i64 0]) 5 48 Tryz.underlying39 hi hz0 hz1 hz2 rfl (by decide) _ _ _ rfl hown ad len cap (acells l) rfl hll (unhide HNW) hone ?c3 ?c4 ?c5 ?_)
    case c3 => unfold maxLen; omega
    case c4 => omega
    case c5 => simp
    intro v' w3 hown' hgrow _
    have HO := hide (show AOwn w.heap.size w3 v' l by
      unfold AOwn
      rw [← unhide HLN]
      exact hown')
    have HB := hide (show Below w.heap.size w w3 from (below_al (Below.refl _ w) (.cells #[] 96)).grown hgrow (by simp) (fun k e => by simp [Value.ownBlock] at e; omega))
    clear hown' hgrow hown hone hll
    go_wp2
    go_ret
    exact ⟨_, rfl, unhide HO, unhide HB⟩
theorem set_idem {arr : Array Value} {j : Nat} {x : Value} (h : arr[j]? = some x) : arr.setIfInBounds j x = arr := by
  apply Array.ext
  · simp
  · intro i h1 h2
    rw [Array.getElem_setIfInBounds]
    split
    · rename_i e
      subst e
      rw [Array.getElem?_eq_getElem h2] at h
      exact (Option.some.inj h).symm
    · rfl
/-- a cell that is written with what stands there -/
theorem AOwn.same {w : World} {B g n cap j : Nat} {x : Value} {l : List Ask} (h : AOwn B w (.slice (some ⟨g, 0, none⟩) n cap) l) (hc : w.cell? ⟨g, j, none⟩ = some x) : AOwn B (w.setCell ⟨g, j, none⟩ x) (.slice (some ⟨g, 0, none⟩) n cap) l ∧ B ≤ g := by
  obtain ⟨h1, h2⟩ := h
  rcases h2 with ⟨e, _⟩ | ⟨g', cap', cur, e, h3, h4, h5⟩
  · cases e
  · cases e
    have hx : cur[j]? = some x := by simpa [World.cell?, h4] using hc
    refine ⟨⟨h1, .inr ⟨g, cap, cur, rfl, h3, ?_, h5⟩⟩, h3⟩
    have := heap_setCell_same w g j _ _ x h4
    rw [set_idem hx] at this
    exact this
theorem AOwn.other3 {w : World} {B : Nat} {v : Value} {l : List Ask} (h : AOwn B w v l) (k j : Nat) (x : Value) (hk : k < B) : AOwn B (w.setCell ⟨k, j, none⟩ x) v l := by
  obtain ⟨h1, h2⟩ := h
  refine ⟨h1, ?_⟩
  rcases h2 with h2 | ⟨g, cap, cur, a, b, c, d⟩
  · exact .inl h2
  · exact .inr ⟨g, cap, cur, a, b, (heap_setCell_other w ⟨k, j, none⟩ g x (show g ≠ k by omega)).trans c, d⟩

set_option maxRecDepth 100000 in
set_option maxHeartbeats 4000000 in
theorem copyOfApp_any (id : Int) (qu : List UInt8) (ao : Option Addr) (len cap : Nat) (l : List Ask) (w : World) (h : AskRow w ao len l) (hl : len ≤ 1048576) (hq : qu.length ≤ 1048576) (hn : ∀ q ∈ l, q.node.length ≤ 1048576) :
    Calls Tryz.prog 43 #[applv id qu ao len cap] w fun e w' => ∃ v, e = .returned (.agg #[.int .i64 id, .string (bs qu), v]) ∧ AOwn w.heap.size w' v l ∧ Below w.heap.size w w' := by
  have HN := hide hn
  have hB := below_al (below_al (Below.refl _ w) (.cells #[.int .i64 id, .string (bs qu), .slice ao len cap] 41)) (.cells #[.int .i64 0, .string ByteArray.empty, .slice none 0 0] 41)
  have CC := hide (cloneAsk_any ao len cap l _ (h.below hB) hl)
  have HB0 := hide hB
  have K0 := hide ((blk_new w #[.int .i64 id, .string (bs qu), .slice ao len cap] 41).al (.cells #[.int .i64 0, .string ByteArray.empty, .slice none 0 0] 41))
  have K1 := hide (show Blk _ (w.heap.size + 1) #[.int .i64 0, .string ByteArray.empty, .slice none 0 0] 41 by have := blk_new (w.alloc (.cells #[.int .i64 id, .string (bs qu), .slice ao len cap] 41)) #[.int .i64 0, .string ByteArray.empty, .slice none 0 0] 41; rwa [al_size] at this)
  have hll := hide h.1
  have hsq : (bs qu).size ≤ 281474976710656 := by rw [bs_size]; omega
  clear h hn hB
  go_enter Tryz.func43, Tryz.ntmps43
  go_wp2_with fail
  refine (unhide CC).mono ?_
  rintro e w1 ⟨v, rfl, ho, hb⟩
  have HB1 := hide (below_on (unhide HB0) hb)
  have P0 := hide ((unhide K0).below hb)
  have P1 := hide ((unhide K1).below hb)
  have hsz1 : w.heap.size + 2 ≤ w1.heap.size := by have := hb.size; rw [al_size, al_size] at this; omega
  have HO := hide (ho.base (B' := w.heap.size + 2) (by rw [al_size, al_size]; omega))
  obtain ⟨xo, xc, rfl, _, hxc, hxg⟩ := ho.row
  obtain ⟨n, hnn⟩ : ∃ n, l.length = n := ⟨_, rfl⟩
  have HLN := hide hnn
  have hn2 : n ≤ 1048576 := by have := unhide hll; omega
  rw [hnn] at HO hxc ⊢
  clear ho hb CC HB0 K0 K1 hnn hxg
  go_wp2
  go_loopw [10] (fun i wr => ∃ (k : Nat), k ≤ n ∧ i = .int .i64 k ∧ Hid (AOwn (w.heap.size + 2) wr (.slice xo n xc) l) ∧ Hid (Below (w.heap.size + 2) w1 wr)) (fun i _ => n - (intOf i).toNat)
  case atStart => exact ⟨0, Nat.zero_le _, rfl, HO, hide (Below.refl _ _)⟩
  case round =>
    obtain ⟨k, hk, rfl, HOr, HBr⟩ := hrel
    by_cases hlt : k < n
    · have hkl : k < l.length := by have := unhide HLN; omega
      obtain ⟨xo', xc', e, hrow, _, hg⟩ := (unhide HOr).row
      obtain ⟨g, cur, rfl, hg1, hg2, hg3⟩ := hg (by intro e; rw [e] at hkl; simp at hkl)
      rw [unhide HLN] at e hrow
      cases e
      obtain ⟨b', off', e', hat⟩ := hrow.at hlt
      cases e'
      have c3 := (hat hkl).2.2.2.1
      simp only [Nat.zero_add] at c3
      have hnd := unhide HN l[k] (List.getElem_mem _)
      obtain ⟨nd, hs⟩ : ∃ s, l[k].node = s := ⟨_, rfl⟩
      rw [hs] at c3 hnd
      have hsn : (bs nd).size ≤ 281474976710656 := by rw [bs_size]; omega
      have k0 : (0 : Int) ≤ k := by omega
      have k1 : (k : Int) < n := by omega
      have hgs : g < wr.heap.size := lt_of_block hg2
      clear hat hrow hg2 hg3 hs hkl
      go_wp2_with fail
      refine (clone_any (bs nd) _ hsn).mono ?_
      rintro e w2 ⟨rfl, hb⟩
      have HO2 := hide ((unhide HOr).below hb)
      have c3' := (hb.cell (p := ⟨g, k * 5 + 3, none⟩) hgs).trans c3
      have hsame := (unhide HO2).same c3'
      have f3 : w2.frozen? ⟨g, k * 5 + 3, none⟩ = false := by
        rcases (unhide HO2).2 with ⟨e, _⟩ | ⟨g', cap', cur', e, _, h4, _⟩
        · cases e
        · cases e; simp [World.frozen?, h4]
      have HS := hide hsame
      have HB2 := hide (show Below (w.heap.size + 2) w1 (w2.setCell ⟨g, k * 5 + 3, none⟩ (.string (bs nd))) from ((unhide HBr).trans (hb.mono (by have := (unhide HBr).size; omega))).setCell (by exact hsame.2) _)
      clear hb hsame HOr HBr HO2 c3
      go_wp2
      go_roundw
      case rel => exact ⟨k + 1, by omega, by go_num, hide (unhide HS).1, HB2⟩
      case measure => simp [intOf]; omega
    · have q0 := (show Blk wr w.heap.size _ 41 from ((unhide HBr).block _ (by omega)).trans (unhide P0))
      have q1 := (show Blk wr (w.heap.size + 1) _ 41 from ((unhide HBr).block _ (by omega)).trans (unhide P1))
      have HQ1 := hide q1
      have HBw := hide (show Below w.heap.size w wr from (unhide HB1).trans ((unhide HBr).mono (by omega)))
      have hwr : w.heap.size + 2 ≤ wr.heap.size := by have := (unhide HBr).size; omega
      have HQ0 := hide q0
      have a0 := q0.at 0
      have a1 := q0.at 1
      simp at a0 a1
      have CL := hide (fun wx => clone_any (bs qu) wx hsq)
      clear q0 q1
      go_wp2_with fail
      go_region_with (go_at_call 89; refine (unhide CL _).mono ?_; rintro e w2 ⟨rfl, hb⟩; have HW2 := hide (below_on (Below.refl _ wr).drew hb); have b0 := ((unhide HQ0).below (unhide HW2)).at 0; have b1 := ((unhide HQ0).below (unhide HW2)).at 1; have T2 := (unhide HQ1).below (unhide HW2); have t0 := T2.at 0; have t1 := T2.at 1; have t2 := T2.at 2; have tf0 := T2.f 0; have tf1 := T2.f 1; have tf2 := T2.f 2; simp at b0 b1 t0 t1 t2; have HT2 := hide T2; clear T2 hb)
      all_goals go_wp2
      all_goals
        have X1 := (((unhide HT2).set 0 (.int .i64 id)).set 1 (.string (bs qu))).set 2 (.slice xo n xc)
        have x0 := X1.at 0
        have x1 := X1.at 1
        have x2 := X1.at 2
        simp at x0 x1 x2
        refine bodyPost_ret (v := .agg #[.int .i64 id, .string (bs qu), .slice xo n xc]) (by simp [results, Tryz.results43, go_sem, x0, x1, x2]) rfl ⟨_, rfl, ?_, ?_⟩
        · exact ((((((unhide HOr).below (unhide HW2)).other3 (w.heap.size + 1) 0 (.int .i64 id) (by omega)).other3 (w.heap.size + 1) 1 (.string (bs qu)) (by omega)).other3 (w.heap.size + 1) 2 (.slice xo n xc) (by omega))).base (by omega)
        · exact below_sc (below_sc (below_sc (below_on (unhide HBw) (unhide HW2)) _ _ _ (by omega)) _ _ _ (by omega)) _ _ _ (by omega)
end Go.Proofs.YtcplnodfcchdhaaGreat

/-
  Lists of queues that a call gathers, one behind the other.
-/
namespace Go.Proofs.YtcplnodfcchdhaaGreat
open Go.RowKit
set_option linter.unusedVariables false
abbrev qcell (q : Q) : List Value := [.string (bs q.name), .string (bs q.parent), .int .i64 q.due, .int .i64 q.most]
def qcells : List Q → List Value
  | [] => []
  | q :: t => qcell q ++ qcells t
theorem qcells_len : ∀ l : List Q, (qcells l).length = l.length * 4
  | [] => rfl
  | q :: t => by rw [qcells, List.length_append, qcells_len t]; simp; omega
theorem qcells_at : ∀ (l : List Q) (i : Nat) (h : i < l.length), (qcells l)[i * 4]? = some (.string (bs l[i].name)) ∧ (qcells l)[i * 4 + 1]? = some (.string (bs l[i].parent)) ∧ (qcells l)[i * 4 + 2]? = some (.int .i64 l[i].due) ∧ (qcells l)[i * 4 + 3]? = some (.int .i64 l[i].most)
  | q :: t, 0, _ => ⟨rfl, rfl, rfl, rfl⟩
  | q :: t, i + 1, h => by
    have e := qcells_at t i (by simpa using h)
    have k : ∀ j, (qcells (q :: t))[(i + 1) * 4 + j]? = (qcells t)[i * 4 + j]? := fun j => by
      rw [qcells, show (i + 1) * 4 + j = (qcell q).length + (i * 4 + j) by simp; omega, List.getElem?_append_right (by omega)]
      congr 1
      omega
    have k0 := k 0
    simp only [Nat.add_zero] at k0
    rw [k0, k 1, k 2, k 3]
    simpa using e
/-- v is a list of these queues, in memory of its own from block B on -/
def QOwn (B : Nat) (w : World) (v : Value) (l : List Q) : Prop := w.ownsRow B 59 4 v l.length (qcells l)
theorem qown_nil (B : Nat) (w : World) : QOwn B w (.slice none 0 0) [] := World.ownsRow_nil _ _ _ _
theorem qown_empty (w : World) : QOwn w.heap.size (w.alloc (.cells #[] 59)) (.slice (some ⟨w.heap.size, 0, none⟩) 0 0) [] :=
  ⟨rfl, .inr ⟨w.heap.size, 0, #[], rfl, Nat.le_refl _, by show (w.heap.push _)[w.heap.size]? = _; simp, Nat.le_refl _, by unfold maxLen; omega, rfl, rfl⟩⟩
theorem QOwn.below {w w' : World} {B : Nat} {v : Value} {l : List Q} (h : QOwn B w v l) (hb : Below w.heap.size w w') : QOwn B w' v l :=
  h.kept (grownBy_below (grownBy_refl w none) hb) (by by_cases e : v.ownBlock = none; exact .inl e; exact .inr e)
theorem QOwn.row {w : World} {B : Nat} {v : Value} {l : List Q} (h : QOwn B w v l) : ∃ ao cap, v = .slice ao l.length cap ∧ QRow w ao l.length l ∧ l.length ≤ cap := by
  rcases h.2 with ⟨rfl, h0⟩ | ⟨g, cap, cur, rfl, h1, h2, h3, h4, h5, h6⟩
  · exact ⟨none, 0, by rw [h0], ⟨rfl, .inl h0⟩, by omega⟩
  · refine ⟨some ⟨g, 0, none⟩, cap, rfl, ⟨rfl, .inr ⟨g, 0, rfl, fun i hi => ?_⟩⟩, h3⟩
    obtain ⟨a, b, c, d⟩ := qcells_at l i hi
    have k : ∀ j (v : Value), j < l.length * 4 → (qcells l)[j]? = some v → w.cell? ⟨g, j, none⟩ = some v := fun j v hj hv => by
      rw [← h6, List.getElem?_take_of_lt hj] at hv
      simp [World.cell?, h2]
      simpa using hv
    unfold QAt
    rw [Nat.zero_add]
    exact ⟨k _ _ (by omega) a, k _ _ (by omega) b, k _ _ (by omega) c, k _ _ (by omega) d⟩
theorem QOwn.some {w : World} {B : Nat} {v : Value} {l : List Q} (h : QOwn B w v l) (hl : l ≠ []) : ∃ g cap, v = .slice (some ⟨g, 0, none⟩) l.length cap ∧ QAny w 59 g cap ∧ QRow w (some ⟨g, 0, none⟩) l.length l ∧ l.length ≤ cap ∧ B ≤ g := by
  obtain ⟨ao, cap, e, hr, hc⟩ := h.row
  rcases h.2 with ⟨rfl, h0⟩ | ⟨g, cap', cur, rfl, h1, h2, h3, h4, h5, h6⟩
  · exact absurd (List.eq_nil_of_length_eq_zero h0) hl
  · simp only [Value.slice.injEq] at e
    obtain ⟨rfl, _, rfl⟩ := e
    exact ⟨g, cap', rfl, ⟨cur, h2, by omega, fun i hi => absurd hi (by simp)⟩, hr, hc, h1⟩
theorem Tryz.infoQ : (Tryz.prog.info? 59).map (fun i => (i.zero, i.size, i.bytes)) = some (some (.agg #[.string ByteArray.empty, .string ByteArray.empty, .int .i64 0, .int .i64 0]), 4, 48) := by kernel_rfl
end Go.Proofs.YtcplnodfcchdhaaGreat
