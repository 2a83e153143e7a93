/-
  Several texts of this claim in one: RcRow, OwnJ, ReadF, ReadG, WriteB, JouM (pack.py put them together); each says in its own remark what is proved.
-/
import Derived.Test.YtkpmocbfedgfhaaGreatPackL
import Derived.Laws.MakeOwn
import Derived.Laws.AppendOwn
import Derived.Lib.SliceRun
import Derived.Deep.RegionWith
import Derived.Test.YtkpmocbfedgfhaaGreatPackO
import Derived.Deep.QuietTactic
import Derived.BigQuiet
import Derived.Deep.CutRange
import Derived.Test.YtkpmocbfedgfhaaGreatPackJ
import Derived.Test.YtkpmocbfedgfhaaGreatPackM
/-
  Rows of Rec values: in memory, and rows that a call makes and fills one by one (mkrow.py wrote this).
-/
namespace Go.Proofs.YtkpmocbfedgfhaaGreat
open Go.RowKit
set_option linter.unusedVariables false
def RcAt (w : World) (b p : Nat) (q : Rc) : Prop :=
  w.cell? ⟨b, p, none⟩ = some (.int .i64 q.kind) ∧ w.cell? ⟨b, p + 1, none⟩ = some (.int .i64 q.app) ∧ w.cell? ⟨b, p + 2, none⟩ = some (.string (bs q.queue))
def RcRow (w : World) (ao : Option Addr) (len : Nat) (l : List Rc) : Prop :=
  len = l.length ∧ (len = 0 ∨ ∃ b off, ao = some ⟨b, off, none⟩ ∧ ∀ i (h : i < l.length), RcAt w b (off + i * 3) l[i])
theorem RcAt.lt {w : World} {b p : Nat} {q : Rc} (h : RcAt w b p q) : b < w.heap.size := cell_lt h.1
theorem RcAt.below {w w' : World} {b p : Nat} {q : Rc} (h : RcAt w b p q) (hb : Below w.heap.size w w') : RcAt w' b p q :=
  ⟨(hb.cell h.lt).trans h.1, (hb.cell h.lt).trans h.2.1, (hb.cell h.lt).trans h.2.2⟩
theorem RcRow.below {w w' : World} {ao : Option Addr} {len : Nat} {l : List Rc} (h : RcRow w ao len l) (hb : Below w.heap.size w w') : RcRow w' ao len l := by
  obtain ⟨h1, h2⟩ := h
  refine ⟨h1, ?_⟩
  rcases h2 with h2 | ⟨b, off, h3, h4⟩
  · exact .inl h2
  · exact .inr ⟨b, off, h3, fun i h => (h4 i h).below hb⟩
theorem RcRow.nil (w : World) (ao : Option Addr) : RcRow w ao 0 [] := ⟨rfl, .inl rfl⟩
theorem RcRow.at {w : World} {ao : Option Addr} {len : Nat} {l : List Rc} (h : RcRow w ao len l) {i : Nat} (hi : i < len) : ∃ b off, ao = some ⟨b, off, none⟩ ∧ ∀ (h : i < l.length), RcAt w b (off + i * 3) l[i] := by
  obtain ⟨h1, h2⟩ := h
  rcases h2 with h2 | ⟨b, off, h3, h4⟩
  · omega
  · exact ⟨b, off, h3, fun hi => h4 i hi⟩
/-- block g is a row of n, of which the first k are those of l -/
def RcBlk (w : World) (t : TypeId) (g n k : Nat) (l : List Rc) : Prop :=
  ∃ arr : Array Value, w.heap[g]? = some (.cells arr t (0, 0)) ∧ arr.size = n * 3 ∧ ∀ i (h : i < l.length), i < k → arr[i * 3]? = some (.int .i64 l[i].kind) ∧ arr[i * 3 + 1]? = some (.int .i64 l[i].app) ∧ arr[i * 3 + 2]? = some (.string (bs l[i].queue))
theorem RcBlk.lt {w : World} {t : TypeId} {g n k : Nat} {l : List Rc} (h : RcBlk w t g n k l) : g < w.heap.size := let ⟨_, h, _⟩ := h; lt_of_block h
theorem RcBlk.below {w w' : World} {t : TypeId} {g n k : Nat} {l : List Rc} (h : RcBlk w t g n k l) (hb : Below w.heap.size w w') : RcBlk w' t g n k l := by
  have hlt := h.lt
  obtain ⟨arr, h1, h2⟩ := h
  exact ⟨arr, (hb.block g hlt).trans h1, h2⟩
theorem RcBlk.cell {w : World} {t : TypeId} {g n k : Nat} {l : List Rc} (h : RcBlk w t g n k l) {j : Nat} (hj : j < n * 3) : ∃ v, w.cell? ⟨g, j, none⟩ = some v := by
  obtain ⟨arr, h1, h2, _⟩ := h
  exact ⟨arr[j]'(by omega), by simp [World.cell?, h1, Array.getElem?_eq_getElem (show j < arr.size by omega)]⟩
theorem RcBlk.frozen {w : World} {t : TypeId} {g n k : Nat} {l : List Rc} (h : RcBlk w t g n k l) (j : Nat) : w.frozen? ⟨g, j, none⟩ = false := by
  obtain ⟨arr, h1, h2, _⟩ := h
  simp [World.frozen?, h1]
theorem RcBlk.row {w : World} {t : TypeId} {g n : Nat} {l : List Rc} (h : RcBlk w t g n n l) (hl : n = l.length) : RcRow w (some ⟨g, 0, none⟩) n l := by
  obtain ⟨arr, h1, h2, h3⟩ := h
  refine ⟨hl, .inr ⟨g, 0, rfl, fun i hi => ?_⟩⟩
  obtain ⟨a, b, c⟩ := h3 i hi (by omega)
  unfold RcAt
  simp only [Nat.zero_add]
  exact ⟨by simp [World.cell?, h1, a], by simp [World.cell?, h1, b], by simp [World.cell?, h1, c]⟩
/-- one more -/
def putRc (w : World) (g p : Nat) (q : Rc) : World := (((w.setCell ⟨g, p, none⟩ (.int .i64 q.kind)).setCell ⟨g, p + 1, none⟩ (.int .i64 q.app)).setCell ⟨g, p + 2, none⟩ (.string (bs q.queue)))
theorem RcBlk.step {w : World} {t : TypeId} {g n k : Nat} {l : List Rc} (h : RcBlk w t g n k l) (hk : k < n) (hl : k < l.length) : RcBlk (putRc w g (k * 3) l[k]) t g n (k + 1) l := by
  obtain ⟨arr, h1, h2, h3⟩ := h
  have e1 := heap_setCell_same w g (k * 3) _ _ (.int .i64 l[k].kind) h1
  have e2 := heap_setCell_same _ g (k * 3 + 1) _ _ (.int .i64 l[k].app) e1
  have e3 := heap_setCell_same _ g (k * 3 + 2) _ _ (.string (bs l[k].queue)) e2
  refine ⟨_, e3, by simp [h2], fun i hi hik => ?_⟩
  by_cases e : i = k
  · subst e
    have q1 : i * 3 + 2 < arr.size := by omega
    refine ⟨?_, ?_, ?_⟩ <;> simp [Array.getElem?_setIfInBounds, h2] <;> omega
  · obtain ⟨a, b, c⟩ := h3 i hi (by omega)
    refine ⟨?_, ?_, ?_⟩
    · rw [← a]; simp only [Array.getElem?_setIfInBounds]; repeat rw [if_neg (by omega)]
    · rw [← b]; simp only [Array.getElem?_setIfInBounds]; repeat rw [if_neg (by omega)]
    · rw [← c]; simp only [Array.getElem?_setIfInBounds]; repeat rw [if_neg (by omega)]
end Go.Proofs.YtkpmocbfedgfhaaGreat

/-
  Lists of records that own their memory(mkown.py wrote this).
-/
namespace Go.Proofs.YtkpmocbfedgfhaaGreat
open Go.RowKit
set_option linter.unusedVariables false
abbrev jcell (q : Rc) : List Value := [.int .i64 q.kind, .int .i64 q.app, .string (bs q.queue)]
def jcells : List Rc → List Value
  | [] => []
  | q :: t => jcell q ++ jcells t
theorem jcells_app (a : List Rc) (q : Rc) : jcells (a ++ [q]) = jcells a ++ jcell q := by
  induction a with
  | nil => rfl
  | cons x t ih => rw [List.cons_append, jcells, jcells, ih, List.append_assoc]
theorem jcells_at : ∀ (l : List Rc) (i : Nat) (h : i < l.length), (jcells l)[i * 3]? = some (.int .i64 l[i].kind) ∧ (jcells l)[i * 3 + 1]? = some (.int .i64 l[i].app) ∧ (jcells l)[i * 3 + 2]? = some (.string (bs l[i].queue))
  | q :: t, 0, _ => ⟨rfl, rfl, rfl⟩
  | q :: t, i + 1, h => by
    have e := jcells_at t i (by simpa using h)
    have k : ∀ j, (jcells (q :: t))[(i + 1) * 3 + j]? = (jcells t)[i * 3 + j]? := fun j => by
      rw [jcells, show (i + 1) * 3 + j = (jcell q).length + (i * 3 + j) by simp; omega, List.getElem?_append_right (by omega)]
      congr 1
      omega
    have k0 := k 0
    simp only [Nat.add_zero] at k0
    rw [k0, k 1, k 2]
    simpa using e
/-- v is a list of these records, in memory of its own from block B on -/
def JOwn (B : Nat) (w : World) (v : Value) (l : List Rc) : Prop := w.ownsRow B 41 3 v l.length (jcells l)
theorem jown_nil (B : Nat) (w : World) : JOwn B w (.slice none 0 0) [] := World.ownsRow_nil _ _ _ _
theorem jown_empty (w : World) : w.alloc (.cells #[] 41) |>.ownsRow w.heap.size 41 3 (.slice (some ⟨w.heap.size, 0, none⟩) 0 0) 0 [] :=
  ⟨rfl, .inr ⟨w.heap.size, 0, #[], rfl, Nat.le_refl _, by show (w.heap.push _)[w.heap.size]? = _; simp, Nat.le_refl _, by unfold maxLen; omega, rfl, rfl⟩⟩
theorem jown_below {w w' : World} {B : Nat} {v : Value} {l : List Rc} (h : JOwn B w v l) (hb : Below w.heap.size w w') : JOwn B w' v l :=
  World.ownsRow.kept h (grownBy_below (grownBy_refl w none) hb) (by by_cases e : v.ownBlock = none; exact .inl e; exact .inr e)
theorem jown_base {w : World} {B B' : Nat} {v : Value} {l : List Rc} (h : JOwn B w v l) (hb : B' ≤ B) : JOwn B' w v l := by
  obtain ⟨h1, h2⟩ := h
  refine ⟨h1, ?_⟩
  rcases h2 with h2 | ⟨g, cap, cur, a, b, c⟩
  · exact .inl h2
  · exact .inr ⟨g, cap, cur, a, Nat.le_trans hb b, c⟩
theorem jown_row {w : World} {B : Nat} {v : Value} {l : List Rc} (h : JOwn B w v l) : ∃ ao cap, v = .slice ao l.length cap ∧ RcRow w ao l.length l ∧ l.length ≤ cap ∧ (l ≠ [] → ∃ g cur, ao = some ⟨g, 0, none⟩ ∧ B ≤ g ∧ w.heap[g]? = some (.cells cur 41 (0, 0)) ∧ cur.size = cap * 3) := by
  rcases h.2 with ⟨rfl, h0⟩ | ⟨g, cap, cur, rfl, h1, h2, h3, h4, h5, h6⟩
  · exact ⟨none, 0, by rw [h0], ⟨rfl, .inl h0⟩, by omega, fun hn => absurd (List.length_eq_zero_iff.1 h0) hn⟩
  · refine ⟨some ⟨g, 0, none⟩, cap, rfl, ⟨rfl, .inr ⟨g, 0, rfl, fun i hi => ?_⟩⟩, h3, fun _ => ⟨g, cur, rfl, h1, h2, h5⟩⟩
    obtain ⟨a, b, c⟩ := jcells_at l i hi
    have k : ∀ j (v : Value), j < l.length * 3 → (jcells l)[j]? = some v → w.cell? ⟨g, j, none⟩ = some v := fun j v hj hv => by
      rw [← h6, List.getElem?_take_of_lt hj] at hv
      simp [World.cell?, h2]
      simpa using hv
    unfold RcAt
    rw [Nat.zero_add]
    exact ⟨k _ _ (by omega) a, k _ _ (by omega) b, k _ _ (by omega) c⟩
theorem jown_other {w : World} {B : Nat} {v : Value} {l : List Rc} (h : JOwn B w v l) (k j : Nat) (x : Value) (hk : k < B) : JOwn B (w.setCell ⟨k, j, none⟩ x) v l := by
  obtain ⟨h1, h2⟩ := h
  refine ⟨h1, ?_⟩
  rcases h2 with h2 | ⟨g, cap, cur, a, b, c, d⟩
  · exact .inl h2
  · exact .inr ⟨g, cap, cur, a, b, (heap_setCell_other w ⟨k, j, none⟩ g x (show g ≠ k by omega)).trans c, d⟩
theorem Tryz.infoRec : (Tryz.prog.info? 41).map (fun i => (i.zero, i.size, i.bytes)) = some (some (.agg #[.int .i64 0, .int .i64 0, .string ByteArray.empty]), 3, 32) := by kernel_rfl
end Go.Proofs.YtkpmocbfedgfhaaGreat

/-
  A whole log, by the program: Read; a walk over the dump.
-/
namespace Go.Proofs.YtkpmocbfedgfhaaGreat
open Go.RowKit
set_option linter.unusedVariables false
set_option linter.unusedSimpArgs false
/-- the records of a log from a byte on, behind those that are gathered; and where the last of them ends -/
def readF (s : ByteArray) : Nat → Nat → List Rc → List Rc × Int
  | 0, i, acc => (acc, i)
  | n + 1, i, acc =>
    if s.size ≤ i then (acc, i)
    else match readEntry s i with
      | none => (acc, i)
      | some (r, j) => readF s n j.toNat (acc ++ [r])
def readV (s : ByteArray) : List Rc × Int := if 60000 < s.size then ([], 0) else readF s (s.size + 1) 0 []
theorem readF_done {s : ByteArray} {n i : Nat} {acc : List Rc} (h : s.size ≤ i) : readF s (n + 1) i acc = (acc, (i : Int)) := by rw [readF, if_pos h]
theorem readF_none {s : ByteArray} {n i : Nat} {acc : List Rc} (h : readEntry s i = none) : readF s (n + 1) i acc = (acc, (i : Int)) := by
  rw [readF]
  split
  · rfl
  · rw [h]
theorem readF_some {s : ByteArray} {n i : Nat} {acc : List Rc} {r : Rc} {j : Int} (h0 : i < s.size) (h : readEntry s i = some (r, j)) : readF s (n + 1) i acc = readF s n j.toNat (acc ++ [r]) := by
  rw [readF, if_neg (by omega), h]
theorem entry_on {s : ByteArray} {i : Nat} {r : Rc} {j : Int} (h : readEntry s i = some (r, j)) : (i : Int) + 5 ≤ j ∧ j ≤ s.size := by
  unfold readEntry at h
  split at h
  · exact absurd h (by simp)
  · split at h
    · exact absurd h (by simp)
    · rename_i h4 h2
      split at h
      · exact absurd h (by simp)
      · rename_i r' hr
        split at h
        · simp only [Option.some.injEq, Prod.mk.injEq] at h
          obtain ⟨rfl, rfl⟩ := h
          have hsp := getText_split _ _ h2
          have hle := getText_pos_le s _ h2
          refine ⟨?_, hle.2⟩
          have h3 := hsp.2.2.1
          have h5 := congrArg List.length h3
          have hpt : 1 ≤ (putText (getText s.data.toList ((i + 4 : Nat) : Int)).1).length := by
            unfold putText
            rw [if_pos hsp.2.1, List.length_append]
            have := put_pos (getText s.data.toList ((i + 4 : Nat) : Int)).1.length
            omega
          rw [List.length_append, List.length_drop, List.length_drop, len_eq] at h5
          omega
        · exact absurd h (by simp)
theorem jown_step {w wr w1 : World} {B : Nat} {v v' : Value} {l : List Rc} {q : Rc} {ob : Obj} (hb : Below B w wr) (hown : JOwn B wr v l)
    (h1 : w1.ownsRow B 41 3 v' (l.length + 1) (jcells l ++ jcell q)) (hg : (wr.alloc ob).grownBy w1 v.ownBlock) (hB : B ≤ wr.heap.size) :
    JOwn B w1 v' (l ++ [q]) ∧ Below B w w1 := by
  refine ⟨?_, (hb.alloc hB ob).grown hg (by simp; omega) ?_⟩
  · unfold JOwn
    rw [jcells_app, List.length_append]
    exact h1
  · intro k hk
    rcases hown.2 with ⟨rfl, _⟩ | ⟨g, cap, cur, rfl, hg', _⟩
    · simp [Value.ownBlock] at hk
    · simp [Value.ownBlock] at hk; omega

def atOf (w : World) (g : Nat) : Nat := (intOf ((w.cell? ⟨g, 1, none⟩).getD undef)).toNat
theorem Rd.atOf {w : World} {g i : Nat} {s : ByteArray} {bg : Int} (h : Rd w g s i bg) : atOf w g = i := by
  have := Rd.at h 1
  simp at this
  unfold Go.Proofs.YtkpmocbfedgfhaaGreat.atOf
  rw [this]
  simp [intOf]
theorem jown_gby {w w' : World} {B g : Nat} {v : Value} {l : List Rc} (h : JOwn B w v l) (hg : w.grownBy w' (some g)) (hlt : g < B) : JOwn B w' v l := by
  refine World.ownsRow.kept h hg ?_
  rcases h.2 with ⟨rfl, _⟩ | ⟨g', cap, cur, rfl, hg', _⟩
  · exact .inl rfl
  · right
    simp [Value.ownBlock]
    omega

set_option maxRecDepth 100000 in
set_option maxHeartbeats 4000000 in
theorem implRead_any (s : ByteArray) (w : World) (hs : s.size ≤ 1048576) :
    Calls Tryz.prog 10 #[.string s] w fun e w' => ∃ v, e = .returned (.tuple #[v, .int .i64 (readV s).2]) ∧ JOwn w.heap.size w' v (readV s).1 ∧ Below w.heap.size w w' := by
  have hmf : ∀ (fn : Fn) (first cap : Array Value) (w : World), (Instr.makeFunc fn first cap).run Tryz.prog w = .ok (.func fn first cap) w := fun _ _ _ _ => rfl
  obtain ⟨i0, hi, hz0, hz1, hz2⟩ := info_parts Tryz.infoRec
  have E0 := hide (blk_new w #[.int .i64 0] 3)
  have HB0 := hide (below_al (Below.refl _ w) (.cells #[.int .i64 0] 3))
  by_cases hbig : 60000 < s.size
  · have hv : readV s = ([], 0) := by unfold readV; rw [if_pos hbig]
    rw [hv]
    clear hv
    go_enter_defers Tryz.func10, Tryz.ntmps10
    go_wp2
    refine ⟨.tuple #[.slice none 0 0, .int .i64 0], by simp [results, Tryz.results10, go_sem], .slice none 0 0, rfl, jown_nil _ _, ?_⟩
    repeat (first | exact unhide HB0 | refine below_al ?_ _ | refine Below.drew ?_ | refine below_sc ?_ _ _ _ (by omega))
  have hv : readV s = readF s (s.size + 1) 0 [] := by unfold readV; rw [if_neg hbig]
  rw [hv]
  clear hv
  obtain ⟨X, hX⟩ : ∃ X, readF s (s.size + 1) 0 [] = X := ⟨_, rfl⟩
  rw [hX]
  have HX := hide hX
  clear hX
  have CD := hide (fun (i : Nat) bg wx (hr : Rd wx (w.heap.size + 1) s i bg) => done_any (w.heap.size + 1) s i bg wx hr hs)
  have CE := hide (fun (i : Nat) bg wx (hr : Rd wx (w.heap.size + 1) s i bg) (hi : i ≤ s.size) => nextEntry_any (w.heap.size + 1) s i bg wx hr hs hi)
  have E1 := hide ((unhide E0).al (.cells (rdA s) 87))
  have R1 := hide (Rd.newA (w.alloc (.cells #[.int .i64 0] 3)) s)
  have HB1 := hide (below_al (unhide HB0) (.cells (rdA s) 87))
  simp only [al_size] at R1
  go_enter_defers Tryz.func10, Tryz.ntmps10
  go_upto_region 4 with fail
  refine wp_region_lit ?_
  refine wpList_val (v := .string s) (d := some 9) rfl rfl rfl ?_
  simp only [Act.put, List.setIfInBounds_toArray, List.set_cons_zero, List.set_cons_succ]
  refine wpList_same (v := .agg (rdA s)) (d := some 10) rfl rfl (by refine run_v ?_; simp only [List.map_toArray, List.map_cons, List.map_nil]; exact rd_build s _) ?_
  simp only [Act.put, List.setIfInBounds_toArray, List.set_cons_zero, List.set_cons_succ]
  refine wpList_val (d := some 4) rfl rfl (run_v (rd_alloc _ _)) ?_
  simp only [Act.put, List.setIfInBounds_toArray, List.set_cons_zero, List.set_cons_succ]
  refine wpList_none (d := none) rfl rfl (run_u (rd_store s _)) ?_
  simp only [Act.put, al_size]
  refine wpList_nil ?_
  go_wp2
  go_loopw [2] (fun v wr => ∃ (i n : Nat) (acc : List Rc) (bg : Int), i ≤ s.size ∧ s.size - i < n ∧ acc.length ≤ i ∧ Hid (readF s n i acc = X) ∧ Hid (JOwn (w.heap.size + 2) wr v acc) ∧ Hid (Rd wr (w.heap.size + 1) s i bg) ∧ Hid (Blk wr w.heap.size #[.int .i64 0] 3) ∧ Hid (Below w.heap.size w wr) ∧ w.heap.size + 2 ≤ wr.heap.size) (fun _ wr => s.size - atOf wr (w.heap.size + 1))
  case atStart => exact ⟨0, s.size + 1, [], 0, by omega, by omega, by simp, HX, hide (jown_nil _ _), R1, E1, HB1, by simp⟩
  case round =>
    obtain ⟨i, n, acc, bg, hi1, hn, hac, HF, HO, HR, HE, HB, hsz⟩ := hrel
    obtain ⟨m, rfl⟩ : ∃ m, n = m + 1 := ⟨n - 1, by omega⟩
    have hat := (unhide HR).atOf
    have C1 := hide (unhide CD i bg wr (unhide HR))
    by_cases hd : s.size ≤ i
    · have hdd : decide ((s.size : Int) ≤ (i : Int)) = true := by simp; omega
      rw [hdd] at C1
      have HF2 := hide (show (acc, (i : Int)) = X by rw [← unhide HF, readF_done hd])
      go_wp2_with fail
      refine (unhide C1).mono ?_
      rintro e w1 ⟨rfl, hb⟩
      have HO1 := hide (jown_below (unhide HO) hb)
      have HE1 := hide ((unhide HE).below hb)
      have HB1 := hide (below_on (unhide HB) hb)
      have k1 := (Rd.below (unhide HR) hb).at 1
      have e0 := (unhide HE1).at 0
      have ef := (unhide HE1).f 0
      simp at k1 e0
      clear hb
      go_wp2_with fail
      refine wp_region_noPanic ?_
      go_region_with (fail)
      refine NoPanic.normal ?_
      go_wp2
      have VF := hide (show Blk (w1.setCell ⟨w.heap.size, 0, none⟩ (.int .i64 (i : Int))).drew w.heap.size #[.int .i64 (i : Int)] 3 from Blk.drew (by simpa using (unhide HE1).set 0 (.int .i64 (i : Int))))
      have OF := hide (show JOwn (w.heap.size + 2) (w1.setCell ⟨w.heap.size, 0, none⟩ (.int .i64 (i : Int))).drew u2 acc from jown_below (jown_other (unhide HO1) _ _ _ (by omega)) (Below.refl _ _).drew)
      have HBF := hide (below_sc (unhide HB1) w.heap.size 0 (.int .i64 (i : Int)) (Nat.le_refl _)).drew
      refine leaves_cons (f := 28) (args := #[.pointer (some ⟨w.heap.size, 0, none⟩)]) (by simp) (by simp [go_sem]) ?_
      refine (catchR_idle w.heap.size (i : Int) _ (unhide VF)).mono ?_
      rintro e u' w3 ⟨rfl, rfl, hb⟩
      have h1 := (unhide VF).below hb
      have k0 := h1.at 0
      simp at k0
      have HO3 := hide (jown_below (unhide OF) hb)
      have HB3 := hide (below_on (unhide HBF) hb)
      clear hb h1
      rw [← unhide HF2]
      refine ⟨.tuple #[u2, .int .i64 (i : Int)], ?_, u2, rfl, jown_base (unhide HO3) (by omega), unhide HB3⟩
      simp [results, Tryz.results10, go_sem, k0]
    · have hdd : decide ((s.size : Int) ≤ (i : Int)) = false := by simp; omega
      rw [hdd] at C1
      have C2 := hide (fun wx hr => unhide CE i bg wx hr hi1)
      obtain ⟨x, hx⟩ : ∃ x, readEntry s i = x := ⟨_, rfl⟩
      have C3 := hide (by have := unhide C2; rw [hx] at this; exact this)
      clear C2
      cases x with
      | none =>
        have HF2 := hide (show (acc, (i : Int)) = X by rw [← unhide HF, readF_none hx])
        simp only [Option.map_none] at C3
        clear hx
        go_wp2_with fail
        refine (unhide C1).mono ?_
        rintro e w1 ⟨rfl, hb⟩
        have HR1 := hide (Rd.below (unhide HR) hb)
        have HO1 := hide (jown_below (unhide HO) hb)
        have HE1 := hide ((unhide HE).below hb)
        have HB1 := hide (below_on (unhide HB) hb)
        clear hb
        go_wp2_with fail
        refine (unhide C3 _ (unhide HR1)).mono ?_
        rintro e w2 ⟨hg, rfl, hr⟩
        have HO2 := hide (jown_gby (unhide HO1) hg (by omega))
        have HE2 := hide ((unhide HE1).gby hg (by omega))
        have HB2 := hide ((unhide HB1).grown hg (unhide HB1).size (fun k hk => by cases hk; omega))
        clear hg hr
        go_wp2
        refine leaves_cons (f := 28) (args := #[.pointer (some ⟨w.heap.size, 0, none⟩)]) (by simp) (by simp [go_sem]) ?_
        refine (catchR_panicking w.heap.size 0 (i : Int) [] w2 (unhide HE2)).mono ?_
        rintro e u' w3 ⟨rfl, rfl, h1, hg⟩
        have k0 := h1.at 0
        simp at k0
        have HO3 := hide (jown_gby (unhide HO2) hg (by omega))
        have HB3 := hide ((unhide HB2).grown hg (unhide HB2).size (fun k hk => by cases hk; omega))
        clear hg h1
        rw [← unhide HF2]
        refine ⟨.tuple #[u2, .int .i64 (i : Int)], ?_, u2, rfl, jown_base (unhide HO3) (by omega), unhide HB3⟩
        simp [results, Tryz.results10, go_sem, k0]
      | some y =>
        obtain ⟨⟨rk, ra, rq⟩, j⟩ := y
        obtain ⟨hj1, hj2⟩ := entry_on hx
        have HF2 := hide (show readF s m j.toNat (acc ++ [⟨rk, ra, rq⟩]) = X by rw [← unhide HF, readF_some (by omega) hx])
        simp only [Option.map_some] at C3
        have hjn : (j.toNat : Int) = j := by omega
        clear hx
        go_wp2_with fail
        refine (unhide C1).mono ?_
        rintro e w1 ⟨rfl, hb⟩
        have HR1 := hide (Rd.below (unhide HR) hb)
        have HO1 := hide (jown_below (unhide HO) hb)
        have HE1 := hide ((unhide HE).below hb)
        have HB1 := hide (below_on (unhide HB) hb)
        have hsz1 : w.heap.size + 2 ≤ w1.heap.size := Nat.le_trans hsz hb.size
        clear hb
        go_wp2_with fail
        refine (unhide C3 _ (unhide HR1)).mono ?_
        rintro e w2 ⟨hg, rfl, hr⟩
        have HR2 := hide hr
        have HO2 := hide (jown_gby (unhide HO1) hg (by omega))
        have HE2 := hide ((unhide HE1).gby hg (by omega))
        have HB2 := hide ((unhide HB1).grown hg (unhide HB1).size (fun k hk => by cases hk; omega))
        have hsz2 : w.heap.size + 2 ≤ w2.heap.size := Nat.le_trans hsz1 hg.size
        clear hg hr
        have hown : w2.ownsRow (w.heap.size + 2) 41 3 _ acc.length (jcells acc) := unhide HO2
        go_wp2_with (at_builtin; refine wpList_append_own _ rfl _ _ 36 rfl (w.heap.size + 2) 41 i0 (.agg #[.int .i64 0, .int .i64 0, .string ByteArray.empty]) 3 32 Tryz.underlying36 hi hz0 hz1 hz2 rfl (by decide) _ _ _ rfl (hown.alloc _) ⟨w2.heap.size, 0, none⟩ 1 1 (jcell ⟨rk, ra, rq⟩) rfl rfl ?c1 ?c2 ?c3 ?c4 ?c5 ?_)
        case c1 =>
          intro j x hj
          match j, hj with
          | 0, hj => simp at hj; subst hj; simp [Addr.add]
          | 1, hj => simp at hj; subst hj; simp [Addr.add]
          | 2, hj => simp at hj; subst hj; simp [Addr.add]
          | _ + 3, hj => simp at hj
        case c2 => intro x hx; simp at hx; rcases hx with rfl | rfl | rfl <;> rfl
        case c3 => unfold maxLen; omega
        case c4 => omega
        case c5 => simp at hsz2 ⊢; omega
        intro v' w3 hown' hgrow _
        have R := jown_step (Below.refl (w.heap.size + 2) w2) (unhide HO2) hown' hgrow hsz2
        have HR3 := hide (show Rd w3 (w.heap.size + 1) s j i from (unhide HR2).move (R.2.block _ (by omega)))
        have HE3 := hide (show Blk w3 w.heap.size #[.int .i64 0] 3 from (R.2.block _ (by omega)).trans (unhide HE2))
        have HB3 := hide (Below.trans (unhide HB2) (R.2.mono (by omega)))
        have HO3 := hide R.1
        have hsz3 : w.heap.size + 2 ≤ w3.heap.size := Nat.le_trans hsz2 R.2.size
        have hat3 : atOf w3 (w.heap.size + 1) = j.toNat := by have h := unhide HR3; rw [← hjn] at h; exact h.atOf
        clear hown' hgrow hown R
        go_wp2
        go_roundw
        case rel => exact ⟨j.toNat, m, acc ++ [⟨rk, ra, rq⟩], (i : Int), by omega, by omega, by simp; omega, HF2, HO3, hide (by rw [hjn]; exact unhide HR3), HE3, HB3, hsz3⟩
        case measure => rw [hat3, hat]; omega
end Go.Proofs.YtkpmocbfedgfhaaGreat

/-
  A whole log, by the model: Read; a walk over the dump.
-/
namespace Go.Proofs.YtkpmocbfedgfhaaGreat
open Go.RowKit
set_option linter.unusedVariables false
set_option linter.unusedSimpArgs false
def BelS (w wx : World) : Prop := Below w.heap.size w wx
theorem word_sv (s : ByteArray) (i : Nat) (h : i + 4 ≤ s.size) (c : Nat) (hc : c < 4294967296) : (s.extract i (i + 4) = bs (word c)) ↔ c = svN s i 4 := by
  have hg : ∀ k, k < 4 → s.data.toList[i + k]? = some s.data.toList[i + k]! := by
    intro k hk
    rw [List.getElem!_eq_getElem?_getD, List.getElem?_eq_getElem (by rw [len_eq]; omega)]
    rfl
  obtain ⟨b0, h0⟩ : ∃ b, s.data.toList[i]? = some b := ⟨_, by simpa using hg 0 (by omega)⟩
  obtain ⟨b1, h1⟩ : ∃ b, s.data.toList[i + 1]? = some b := ⟨_, hg 1 (by omega)⟩
  obtain ⟨b2, h2⟩ : ∃ b, s.data.toList[i + 2]? = some b := ⟨_, hg 2 (by omega)⟩
  obtain ⟨b3, h3⟩ : ∃ b, s.data.toList[i + 3]? = some b := ⟨_, hg 3 (by omega)⟩
  have hx : s.extract i (i + 4) = bs [b0, b1, b2, b3] := by
    have h5 := extract_pre s i 4
    rw [h5]
    congr 1
    unfold pre
    apply List.ext_getElem?
    intro k
    by_cases hk : k < 4
    · rw [List.getElem?_take_of_lt hk, List.getElem?_drop]
      match k, hk with
      | 0, _ => simpa using h0
      | 1, _ => simpa using h1
      | 2, _ => simpa using h2
      | 3, _ => simpa using h3
    · rw [List.getElem?_eq_none (by simp; omega), List.getElem?_eq_none (by simp; omega)]
  have hv : svN s i 4 = ((b0.toNat * 256 + b1.toNat) * 256 + b2.toNat) * 256 + b3.toNat := by
    simp only [svN, Nat.add_zero, h0, h1, h2, h3, Option.getD_some]
    omega
  have l0 := b0.toNat_lt
  have l1 := b1.toNat_lt
  have l2 := b2.toNat_lt
  have l3 := b3.toNat_lt
  have n0 : b0 = UInt8.ofNat b0.toNat := by simp
  have n1 : b1 = UInt8.ofNat b1.toNat := by simp
  have n2 : b2 = UInt8.ofNat b2.toNat := by simp
  have n3 : b3 = UInt8.ofNat b3.toNat := by simp
  rw [hx, hv]
  constructor
  · intro h
    have hl : [b0, b1, b2, b3] = word c := by
      have := congrArg (fun x : ByteArray => x.data.toList) h
      simpa [bs] using this
    simp only [word, List.cons.injEq, and_true] at hl
    obtain ⟨e0, e1, e2, e3⟩ := hl
    have t0 := congrArg UInt8.toNat e0
    have t1 := congrArg UInt8.toNat e1
    have t2 := congrArg UInt8.toNat e2
    have t3 := congrArg UInt8.toNat e3
    rw [UInt8.toNat_ofNat'] at t0 t1 t2 t3
    omega
  · intro h
    subst h
    congr 1
    simp only [word, List.cons.injEq, and_true]
    refine ⟨?_, ?_, ?_, ?_⟩
    · rw [show (((b0.toNat * 256 + b1.toNat) * 256 + b2.toNat) * 256 + b3.toNat) / 16777216 = b0.toNat by omega]; exact n0
    · rw [show (((b0.toNat * 256 + b1.toNat) * 256 + b2.toNat) * 256 + b3.toNat) / 65536 % 256 = b1.toNat by omega]; exact n1
    · rw [show (((b0.toNat * 256 + b1.toNat) * 256 + b2.toNat) * 256 + b3.toNat) / 256 % 256 = b2.toNat by omega]; exact n2
    · rw [show (((b0.toNat * 256 + b1.toNat) * 256 + b2.toNat) * 256 + b3.toNat) % 256 = b3.toNat by omega]; exact n3
theorem entry_short {s : ByteArray} {i : Nat} (h : s.size ≤ i + 4) : readEntry s i = none := by
  unfold readEntry
  by_cases h4 : s.size < i + 4
  · rw [if_pos h4]
  · rw [if_neg h4, if_pos]
    have hd : s.data.toList.drop (((i + 4 : Nat) : Int)).toNat = [] := List.drop_of_length_le (by rw [len_eq]; omega)
    have hn : getNum s.data.toList ((i + 4 : Nat) : Int) = (0, -1) := by
      unfold getNum
      rw [if_neg (by omega), hd]
      rfl
    unfold getText
    rw [hn]
    simp
theorem entry_of {s : ByteArray} {i : Nat} (h : i + 4 ≤ s.size) : readEntry s i = if (getText s.data.toList ((i + 4 : Nat) : Int)).2 < 0 then none
    else match gotRec (getText s.data.toList ((i + 4 : Nat) : Int)).1 with
    | none => none
    | some r => if crc (getText s.data.toList ((i + 4 : Nat) : Int)).1 = svN s i 4 then some (r, (getText s.data.toList ((i + 4 : Nat) : Int)).2) else none := by
  conv => lhs; unfold readEntry
  rw [if_neg (by omega)]
  rfl

set_option maxRecDepth 100000 in
set_option maxHeartbeats 4000000 in
theorem specRead_any (s : ByteArray) (w : World) (hs : s.size ≤ 1048576) :
    Calls Tryz.prog 19 #[.string s] w fun e w' => ∃ v, e = .returned (.tuple #[v, .int .i64 (readV s).2]) ∧ JOwn w.heap.size w' v (readV s).1 ∧ Below w.heap.size w w' := by
  obtain ⟨i0, hi, hz0, hz1, hz2⟩ := info_parts Tryz.infoRec
  have hem := jown_empty w
  have HO0 := hide (show JOwn w.heap.size (w.alloc (.cells #[] 41)) (.slice (some ⟨w.heap.size, 0, none⟩) 0 0) [] from hem)
  have HB0 := hide (below_al (Below.refl _ w) (.cells #[] 41))
  clear hem
  by_cases hbig : 60000 < s.size
  · have hv : readV s = ([], 0) := by unfold readV; rw [if_pos hbig]
    rw [hv]
    clear hv
    go_enter Tryz.func19, Tryz.ntmps19
    go_wp2
    go_loopw [4, 5] (fun v a wr => v = .slice (some ⟨w.heap.size, 0, none⟩) 0 0 ∧ a = .int .i64 0 ∧ wr = w.alloc (.cells #[] 41)) (fun _ _ _ => 0)
    case atStart => exact ⟨rfl, rfl, rfl⟩
    case round =>
      obtain ⟨rfl, rfl, rfl⟩ := hrel
      have hd : decide ((s.size : Int) ≤ 60000) = false := by simp; omega
      go_wp2
      go_ret2
      exact ⟨_, rfl, unhide HO0, unhide HB0⟩
  have hv : readV s = readF s (s.size + 1) 0 [] := by unfold readV; rw [if_neg hbig]
  rw [hv]
  clear hv
  obtain ⟨X, hX⟩ : ∃ X, readF s (s.size + 1) 0 [] = X := ⟨_, rfl⟩
  rw [hX]
  have HX := hide hX
  clear hX
  go_enter Tryz.func19, Tryz.ntmps19
  go_wp2
  go_loopw [4, 5] (fun v a wr => ∃ (i n : Nat) (acc : List Rc), a = .int .i64 (i : Int) ∧ i ≤ s.size ∧ s.size - i < n ∧ acc.length ≤ i ∧ Hid (readF s n i acc = X) ∧ Hid (JOwn w.heap.size wr v acc) ∧ Hid (Below w.heap.size w wr)) (fun _ a _ => s.size - (intOf a).toNat)
  case atStart => exact ⟨0, s.size + 1, [], rfl, by omega, by omega, by simp, HX, HO0, HB0⟩
  case round =>
    obtain ⟨i, n, acc, rfl, hi1, hn, hac, HF, HO, HB⟩ := hrel
    obtain ⟨m, rfl⟩ : ∃ m, n = m + 1 := ⟨n - 1, by omega⟩
    have hle : (s.size : Int) ≤ 60000 := by omega
    by_cases h4 : s.size ≤ i + 4
    · have HF2 := hide (show (acc, (i : Int)) = X by rw [← unhide HF, readF_none (entry_short h4)])
      have hgt : ¬ (4 : Int) < (s.size : Int) - (i : Int) := by omega
      go_wp2
      go_ret2
      rw [← unhide HF2]
      exact ⟨_, rfl, unhide HO, unhide HB⟩
    · have hgt : (4 : Int) < (s.size : Int) - (i : Int) := by omega
      have hex := entry_of (s := s) (i := i) (by omega)
      have hws := fun c hc => word_sv s i (by omega) c hc
      have CT := hide (fun wx => specGetText_any s ((i + 4 : Nat) : Int) wx hs (by omega) (by omega))
      have htl := getText_len2 s.data.toList ((i + 4 : Nat) : Int)
      obtain ⟨⟨t, j⟩, htj⟩ : ∃ x, getText s.data.toList ((i + 4 : Nat) : Int) = x := ⟨_, rfl⟩
      rw [htj] at CT htl hex
      simp only at CT htl hex
      clear htj
      have hi4 : ((i + 4 : Nat) : Int) = (i : Int) + 4 := by omega
      rw [hi4] at CT
      have CG := hide (fun wx => by have := specGetRec_any (bs t) wx (by rw [bs_size]; omega); rw [show gotRec (bs t).data.toList = gotRec t from rfl] at this; exact this)
      have CC := hide (fun wx => by have := specCheckSum_any (bs t) wx (by rw [bs_size]; omega); rw [show crc (bs t).data.toList = crc t from rfl] at this; exact this)
      have hcl : crc t < 4294967296 := xor_lt32 (crcTo_lt _) (by decide)
      have CW := hide (fun wx => l08Word_any (crc t) wx hcl)
      have hws1 := hws (crc t) hcl
      clear hws
      obtain ⟨c, hc⟩ : ∃ c, crc t = c := ⟨_, rfl⟩
      rw [hc] at CC hcl CW hex hws1
      clear hc
      obtain ⟨o, ho⟩ : ∃ o, gotRec t = o := ⟨_, rfl⟩
      rw [ho] at CG hex
      clear ho
      by_cases hj : j < 0
      · have HF2 := hide (show (acc, (i : Int)) = X by rw [← unhide HF, readF_none (by rw [hex, if_pos hj])])
        have HV : ∃ (r : Rc) (b : Bool), recAns o = .tuple #[rcv r, .bool b] := by
          cases o with
          | none => exact ⟨⟨0, 0, []⟩, false, rfl⟩
          | some r => exact ⟨r, true, rfl⟩
        obtain ⟨⟨rk, ra, rq⟩, b, hrb⟩ := HV
        rw [hrb] at CG
        have hjd : decide (j < 0) = true := by simp; exact hj
        clear hex hws1 hrb CC CW
        go_wp2_with fail
        refine (unhide CT _).mono ?_
        rintro e w1 ⟨rfl, hb⟩
        have HO1 := hide (jown_below (unhide HO) hb)
        have HB1 := hide (below_on (unhide HB) hb)
        clear hb CT
        go_wp2_with fail
        refine (unhide CG _).mono ?_
        rintro e w2 ⟨rfl, hb⟩
        have HO2 := hide (jown_below (jown_below (unhide HO1) hb) (below_al (Below.refl _ _) (.cells #[.int .i64 rk, .int .i64 ra, .string (bs rq)] 41)))
        have HB2 := hide (below_al (below_on (unhide HB1) hb) (.cells #[.int .i64 rk, .int .i64 ra, .string (bs rq)] 41))
        have V2 := hide (blk_new w2 #[.int .i64 rk, .int .i64 ra, .string (bs rq)] 41)
        clear hb CG HO1 HB1 HO HB
        go_wp2_with fail
        go_quiet (fail)
        go_wp2
        go_ret2
        rw [← unhide HF2]
        exact ⟨_, rfl, jown_below (unhide HO2) (below_drewN (Below.refl _ _) _), below_drewN (unhide HB2) _⟩
      · rw [if_neg hj] at hex
        have hjd : decide (j < 0) = false := by simp; omega
        cases o with
        | none =>
          have HF2 := hide (show (acc, (i : Int)) = X by rw [← unhide HF, readF_none hex])
          simp only [recAns] at CG
          clear hex hws1 CC CW
          go_wp2_with fail
          refine (unhide CT _).mono ?_
          rintro e w1 ⟨rfl, hb⟩
          have HO1 := hide (jown_below (unhide HO) hb)
          have HB1 := hide (below_on (unhide HB) hb)
          clear hb CT
          go_wp2_with fail
          refine (unhide CG _).mono ?_
          rintro e w2 ⟨rfl, hb⟩
          have HO2 := hide (jown_below (jown_below (unhide HO1) hb) (below_al (Below.refl _ _) (.cells #[.int .i64 0, .int .i64 0, .string (bs [])] 41)))
          have HB2 := hide (below_al (below_on (unhide HB1) hb) (.cells #[.int .i64 0, .int .i64 0, .string (bs [])] 41))
          have V2 := hide (blk_new w2 #[.int .i64 0, .int .i64 0, .string (bs [])] 41)
          clear hb CG HO1 HB1 HO HB
          go_wp2_with fail
          go_quiet (fail)
          go_wp2
          go_ret2
          rw [← unhide HF2]
          exact ⟨_, rfl, jown_below (unhide HO2) (below_drewN (Below.refl _ _) _), below_drewN (unhide HB2) _⟩
        | some r =>
          obtain ⟨rk, ra, rq⟩ := r
          simp only [recAns] at CG
          simp only at hex
          have b1 : (0 : Int) ≤ (i : Int) := by omega
          have b2 : (i : Int) + 4 ≤ (s.size : Int) := by omega
          have b3 : (i : Int) ≤ (i : Int) + 4 := by omega
          have hw4 : IntKind.i64.wrap ((i : Int) + 4) = (i : Int) + 4 := by rw [IntKind.wrap_i64]; omega
          have ht4 : ((i : Int) + 4).toNat = i + 4 := by omega
          have b4 : (0 : Int) ≤ (i : Int) + 4 := by omega
          by_cases hcx : c = svN s i 4
          case neg =>
            rw [if_neg hcx] at hex
            have HF2 := hide (show (acc, (i : Int)) = X by rw [← unhide HF, readF_none hex])
            have hcmp : ((s.extract i (i + 4)).toList == (bs (word c)).toList) = false := by
              rw [beq_eq_false_iff_ne, ne_eq, ByteArray.toList_eq, ByteArray.toList_eq]
              intro h
              apply hcx
              apply hws1.1
              apply ByteArray.ext
              exact Array.ext' h
            clear hex hws1 hcx
            go_wp2_with fail
            refine (unhide CT _).mono ?_
            rintro e w1 ⟨rfl, hb⟩
            have HO1 := hide (jown_below (unhide HO) hb)
            have HB1 := hide (below_on (unhide HB) hb)
            clear hb CT
            go_wp2_with fail
            refine (unhide CG _).mono ?_
            rintro e w2 ⟨rfl, hb⟩
            have HO2 := hide (jown_below (jown_below (unhide HO1) hb) (below_al (Below.refl _ _) (.cells #[.int .i64 rk, .int .i64 ra, .string (bs rq)] 41)))
            have HB2 := hide (below_al (below_on (unhide HB1) hb) (.cells #[.int .i64 rk, .int .i64 ra, .string (bs rq)] 41))
            have V2 := hide (blk_new w2 #[.int .i64 rk, .int .i64 ra, .string (bs rq)] 41)
            clear hb CG HO1 HB1 HO HB
            go_wp2_with fail
            obtain ⟨W, hW⟩ : ∃ W, w2.alloc (.cells #[.int .i64 rk, .int .i64 ra, .string (bs rq)] 41) = W := ⟨_, rfl⟩
            rw [hW] at HO2 HB2 V2 ⊢
            have A0 := hide (show BelS W W from Below.refl _ _)
            go_region_held3 (fun wx => BelS W wx)
              (first | (with_reducible assumption) | exact Below.drew (unhide A0) | exact below_on (by assumption) (by assumption))
              (first
              | (go_at_call 54; refine (unhide CC _).mono ?_; rintro e wt ⟨rfl, rfl⟩)
              | (go_at_call 53; refine (unhide CW _).mono ?_; rintro e wt ⟨rfl, hb⟩; have SA : BelS W wt := below_on (w := W) (by assumption) hb))
            have HBS := hide (show Below W.heap.size W wt from SA)
            clear SA A0
            go_wp2
            go_ret2
            rw [← unhide HF2]
            exact ⟨_, rfl, jown_below (unhide HO2) (unhide HBS), below_on (unhide HB2) (unhide HBS)⟩
          · rw [if_pos hcx] at hex
            obtain ⟨hj1, hj2⟩ := entry_on hex
            have HF2 := hide (show readF s m j.toNat (acc ++ [⟨rk, ra, rq⟩]) = X by rw [← unhide HF, readF_some (by omega) hex])
            have hcmp : ((s.extract i (i + 4)).toList == (bs (word c)).toList) = true := by
              rw [beq_iff_eq, hws1.2 hcx]
            have hjn : (j.toNat : Int) = j := by omega
            clear hex hws1 hcx
            go_wp2_with fail
            refine (unhide CT _).mono ?_
            rintro e w1 ⟨rfl, hb⟩
            have HO1 := hide (jown_below (unhide HO) hb)
            have HB1 := hide (below_on (unhide HB) hb)
            clear hb CT
            go_wp2_with fail
            refine (unhide CG _).mono ?_
            rintro e w2 ⟨rfl, hb⟩
            have HO2 := hide (jown_below (jown_below (unhide HO1) hb) (below_al (Below.refl _ _) (.cells #[.int .i64 rk, .int .i64 ra, .string (bs rq)] 41)))
            have HB2 := hide (below_al (below_on (unhide HB1) hb) (.cells #[.int .i64 rk, .int .i64 ra, .string (bs rq)] 41))
            have V2 := hide (blk_new w2 #[.int .i64 rk, .int .i64 ra, .string (bs rq)] 41)
            clear hb CG HO1 HB1 HO HB
            go_wp2_with fail
            obtain ⟨W, hW⟩ : ∃ W, w2.alloc (.cells #[.int .i64 rk, .int .i64 ra, .string (bs rq)] 41) = W := ⟨_, rfl⟩
            rw [hW] at HO2 HB2 V2 ⊢
            have A0 := hide (show BelS W W from Below.refl _ _)
            go_region_held3 (fun wx => BelS W wx)
              (first | (with_reducible assumption) | exact Below.drew (unhide A0) | exact below_on (by assumption) (by assumption))
              (first
              | (go_at_call 54; refine (unhide CC _).mono ?_; rintro e wt ⟨rfl, rfl⟩)
              | (go_at_call 53; refine (unhide CW _).mono ?_; rintro e wt ⟨rfl, hb⟩; have SA : BelS W wt := below_on (w := W) (by assumption) hb))
            have HBS := hide (show Below W.heap.size W wt from SA)
            have HO3 := hide (jown_below (unhide HO2) (unhide HBS))
            have HB3 := hide (below_on (unhide HB2) (unhide HBS))
            have V3 := hide ((unhide V2).below (unhide HBS))
            have k0 := (unhide V3).at 0
            have k1 := (unhide V3).at 1
            have k2 := (unhide V3).at 2
            simp at k0 k1 k2
            have hsz3 : w.heap.size ≤ wt.heap.size := (unhide HB3).size
            clear SA A0 HO2 HB2 V2
            have hown : wt.ownsRow w.heap.size 41 3 _ acc.length (jcells acc) := unhide HO3
            go_wp2_with (at_builtin; refine wpList_append_own _ rfl _ _ 36 rfl w.heap.size 41 i0 (.agg #[.int .i64 0, .int .i64 0, .string ByteArray.empty]) 3 32 Tryz.underlying36 hi hz0 hz1 hz2 rfl (by decide) _ _ _ rfl (hown.alloc _) ⟨wt.heap.size, 0, none⟩ 1 1 (jcell ⟨rk, ra, rq⟩) rfl rfl ?c1 ?c2 ?c3 ?c4 ?c5 ?_)
            case c1 =>
              intro j x hj
              match j, hj with
              | 0, hj => simp at hj; subst hj; simp [Addr.add]
              | 1, hj => simp at hj; subst hj; simp [Addr.add]
              | 2, hj => simp at hj; subst hj; simp [Addr.add]
              | _ + 3, hj => simp at hj
            case c2 => intro x hx; simp at hx; rcases hx with rfl | rfl | rfl <;> rfl
            case c3 => unfold maxLen; omega
            case c4 => omega
            case c5 => simp at hsz3 ⊢; omega
            intro v' w3 hown' hgrow _
            have R := jown_step (unhide HB3) (unhide HO3) hown' hgrow hsz3
            have HO4 := hide R.1
            have HB4 := hide R.2
            clear hown' hgrow hown R
            go_wp2
            go_roundw
            case rel => exact ⟨j.toNat, m, acc ++ [⟨rk, ra, rq⟩], by rw [hjn], by omega, by omega, by simp; omega, HF2, HO4, HB4⟩
            case measure => simp [intOf]; omega
end Go.Proofs.YtkpmocbfedgfhaaGreat

/-
  A log with a record more, by both sides; walks over the dump.
-/
namespace Go.Proofs.YtkpmocbfedgfhaaGreat
open Go.RowKit
set_option linter.unusedVariables false
/-- what is written of a record -/
def entry (r : Rc) : List UInt8 := word (crc (putRec r)) ++ putText (putRec r)
/-- the log behind, and whether it is written -/
def wrote (l : List UInt8) (r : Rc) : List UInt8 × Bool :=
  if putRec r = [] ∨ 60000 < l.length + (entry r).length then (l, false) else (l ++ entry r, true)
theorem entry_le (r : Rc) : (entry r).length ≤ 2009 := by
  have := putText_le (putRec r)
  simp [entry, word]; omega
theorem bs_app (a b : List UInt8) : bs a ++ bs b = bs (a ++ b) := by
  apply ByteArray.ext
  simp [bs, ByteArray.data_append]

set_option maxRecDepth 100000 in
set_option maxHeartbeats 4000000 in
theorem specWrite_any (l : List UInt8) (r : Rc) (w : World) (hl : l.length ≤ 1048576) (hq : r.queue.length ≤ 1048576) :
    Calls Tryz.prog 45 #[.string (bs l), rcv r] w fun e w' => e = .returned (.tuple #[.string (bs (wrote l r).1), .bool (wrote l r).2]) ∧ Below w.heap.size w w' := by
  have hx : crc (putRec r) < 4294967296 := xor_lt32 (crcTo_lt _) (by decide)
  have hpl := putRec_le r
  have CP := hide (fun wx => specPutRec_any r wx hq)
  have CC := hide (fun wx => specCheckSum_any (bs (putRec r)) wx (by rw [bs_size]; omega))
  have CW := hide (fun wx => l08Word_any (crc (putRec r)) wx hx)
  have CT := hide (fun wx => specPutText_any (bs (putRec r)) wx (by rw [bs_size]; omega))
  have K0 := hide (blk_new w #[.int .i64 r.kind, .int .i64 r.app, .string (bs r.queue)] 41)
  have HB0 := hide (below_al (Below.refl _ w) (.cells #[.int .i64 r.kind, .int .i64 r.app, .string (bs r.queue)] 41))
  have HE := hide (show bs (word (crc (putRec r))) ++ bs (putText (putRec r)) = bs (entry r) from bs_app _ _)
  have hel := entry_le r
  have hem := bs_empty (putRec r)
  have hzl := bs_size l
  have hze := bs_size (entry r)
  rw [show crc (bs (putRec r)).data.toList = crc (putRec r) from rfl] at CC
  rw [show bs (putText (bs (putRec r)).data.toList) = bs (putText (putRec r)) from rfl] at CT
  have HW : wrote l r = if putRec r = [] ∨ 60000 < l.length + (entry r).length then (l, false) else (l ++ entry r, true) := rfl
  have hss : (bs (word (crc (putRec r)))).size = 4 := by rw [bs_size]; rfl
  have hst : (bs (putText (putRec r))).size ≤ 2005 := by rw [bs_size]; exact putText_le _
  have HA := hide (bs_app l (entry r))
  obtain ⟨y, hy⟩ : ∃ y, entry r = y := ⟨_, rfl⟩
  rw [hy] at HE hel hze HW HA
  obtain ⟨p, hp⟩ : ∃ p, putRec r = p := ⟨_, rfl⟩
  rw [hp] at CP CC CW CT HE hem HW hss hst hx
  obtain ⟨c, hc⟩ : ∃ c, crc p = c := ⟨_, rfl⟩
  rw [hc] at CC CW HE hss hx
  obtain ⟨s1, hs1⟩ : ∃ s, bs (word c) = s := ⟨_, rfl⟩
  obtain ⟨s2, hs2⟩ : ∃ s, bs (putText p) = s := ⟨_, rfl⟩
  obtain ⟨s3, hs3⟩ : ∃ s, bs y = s := ⟨_, rfl⟩
  obtain ⟨sl, hsl⟩ : ∃ s, bs l = s := ⟨_, rfl⟩
  rw [hs1] at CW HE hss
  rw [hs2] at CT HE hst
  rw [hs3] at HE hze HA
  rw [hsl] at hzl HA
  have HN := hide hsl
  rw [hsl]
  obtain ⟨⟨o1, o2⟩, ho⟩ : ∃ o, wrote l r = o := ⟨_, rfl⟩
  rw [ho] at HW ⊢
  have n0 : ¬ 9223372036854775807 < s1.size + s2.size := by omega
  have n1 : ¬ 9223372036854775807 < 4 + s2.size := by omega
  have n2 : ¬ 9223372036854775807 < sl.size + s3.size := by omega
  clear ho hy hp hc hs1 hs2 hs3 hsl hpl
  obtain ⟨k, a, q⟩ := r
  simp only at K0 HB0 CP
  go_enter Tryz.func45, Tryz.ntmps45
  go_wp2_with fail
  refine (unhide CP _).mono ?_
  rintro e w1 ⟨rfl, hb⟩
  have HB1 := hide (below_on (unhide HB0) hb)
  clear hb CP HB0 K0
  go_wp2_with fail
  refine (unhide CC _).mono ?_
  rintro e w2 ⟨rfl, rfl⟩
  go_wp2_with fail
  refine (unhide CW _).mono ?_
  rintro e w2 ⟨rfl, hb⟩
  have HB2 := hide (below_on (unhide HB1) hb)
  clear hb CW CC HB1
  go_wp2_with fail
  refine (unhide CT _).mono ?_
  rintro e w3 ⟨rfl, hb⟩
  have HB3 := hide (below_on (unhide HB2) hb)
  clear hb CT HB2
  have HE' := unhide HE
  by_cases h1 : p = []
  · rw [decide_eq_true h1] at hem
    rw [if_pos (.inl h1)] at HW
    cases HW
    clear h1
    go_wp2
    go_ret2
    refine ⟨?_, unhide HB3⟩
    rw [unhide HN]; rfl
  · rw [decide_eq_false h1] at hem
    by_cases h2 : 60000 < l.length + y.length
    · rw [if_pos (.inr h2)] at HW
      cases HW
      clear h1
      have t1 : (60000 : Int) - (s3.size : Int) < (sl.size : Int) := by omega
      go_wp2
      go_ret2
      refine ⟨?_, unhide HB3⟩
      rw [unhide HN]; rfl
    · rw [if_neg (by rintro (h | h); exact h1 h; exact h2 h)] at HW
      cases HW
      clear h1
      have t1 : ¬ (60000 : Int) - (s3.size : Int) < (sl.size : Int) := by omega
      go_wp2
      go_ret2
      refine ⟨?_, unhide HB3⟩
      (try rw [unhide HA]); rfl

end Go.Proofs.YtkpmocbfedgfhaaGreat

/-
  Logs, in plain words: what is read of a log is what was written, entry by entry; of one that is cut off or spoilt at its end the whole ones ahead are left.
-/
namespace Go.Proofs.YtkpmocbfedgfhaaGreat
open Go.RowKit
set_option linter.unusedVariables false
theorem getNum_at (l : List UInt8) (I N : Nat) (t : List UInt8) (hN : N ≤ 4000000000) (h : l.drop I = put N ++ t) : getNum l (I : Int) = ((N : Int), ((I + (put N).length : Nat) : Int)) := by
  have h0 := getNum_put N hN 0 t
  unfold getNum at h0 ⊢
  simp only [show ¬ ((1 : Int) < 0) by decide, if_false, Int.toNat_one, List.drop_succ_cons, List.drop_zero] at h0
  rw [if_neg (by omega), Int.toNat_natCast, h]
  cases hs : stop 5 (put N ++ t) with
  | none => rw [hs] at h0; simp at h0; omega
  | some j =>
    rw [hs] at h0
    simp only at h0 ⊢
    by_cases hp : putNum ((dv ((put N ++ t).take (j + 1)) : Nat) : Int) = (put N ++ t).take (j + 1)
    · rw [if_pos hp] at h0 ⊢
      simp only [Prod.mk.injEq] at h0 ⊢
      refine ⟨h0.1, ?_⟩
      have := h0.2
      omega
    · rw [if_neg hp] at h0
      simp at h0
      omega
theorem getText_at (l : List UInt8) (I : Nat) (a t : List UInt8) (ha : a.length ≤ 2000) (h : l.drop I = putText a ++ t) : getText l (I : Int) = (a, ((I + (putText a).length : Nat) : Int)) := by
  have hp : putText a = put a.length ++ a := by unfold putText; rw [if_pos ha]
  rw [hp, List.append_assoc] at h
  have hn := getNum_at l I a.length (a ++ t) (by omega) h
  have hlen := congrArg List.length h
  simp only [List.length_drop, List.length_append] at hlen
  have hpos := put_pos a.length
  unfold getText
  simp only
  rw [hn]
  simp only
  have hd : l.drop ((I + (put a.length).length : Nat) : Int).toNat = a ++ t := by
    rw [Int.toNat_natCast, ← List.drop_drop, h, List.drop_left]
  rw [if_neg (by omega), hd, Int.toNat_natCast, List.take_left, hp, List.length_append]
  congr 1
  omega
theorem gotRec_put {r : Rc} (h : recOk r = true) : gotRec (putRec r) = some r := by
  rw [← got_same]
  obtain ⟨k, a, q⟩ := r
  obtain ⟨b0, b1, b2, b3, b4⟩ := recOk_bd h
  simp only at b0 b1 b2 b3 b4
  have hp : putRec ⟨k, a, q⟩ = UInt8.ofNat k.toNat :: (putNum a ++ putText q) := by simp [putRec, h]
  have hb : ((UInt8.ofNat k.toNat).toNat : Int) = k := by rw [UInt8.toNat_ofNat']; omega
  have hpn : putNum a = put a.toNat := by unfold putNum; rw [if_pos (by omega)]
  have hn := getNum_at (putRec ⟨k, a, q⟩) 1 a.toNat (putText q) (by omega) (by rw [hp, hpn]; rfl)
  have ht := getText_at (putRec ⟨k, a, q⟩) (1 + (put a.toNat).length) q [] (by omega) (by
    rw [hp, hpn, List.append_nil, Nat.add_comm, List.drop_succ_cons, List.drop_left])
  have han : ((a.toNat : Nat) : Int) = a := by omega
  have h1 : ((1 : Nat) : Int) = 1 := rfl
  rw [h1, han] at hn
  unfold specGot
  rw [hp] at hn ht ⊢
  simp only
  rw [hn]
  simp only
  rw [ht]
  simp only [hb]
  rw [if_neg]
  rintro (h | h)
  · omega
  · exact h hp
theorem gotRec_back {t : List UInt8} {r : Rc} (h : gotRec t = some r) : putRec r = t ∧ recOk r = true := by
  rw [← got_same] at h
  unfold specGot at h
  split at h
  · exact absurd h (by simp)
  · rename_i b t'
    split at h
    · exact absurd h (by simp)
    · rename_i hc
      have hr := Option.some.inj h
      have he : putRec r = b :: t' := by rw [← hr]; exact Classical.not_not.1 (fun e => hc (.inr e))
      refine ⟨he, ?_⟩
      cases ho : recOk r with
      | true => rfl
      | false =>
        have hn : putRec r = [] := by unfold putRec; rw [ho]; rfl
        rw [hn] at he
        exact absurd he (by simp)

/-- what was written, one behind another -/
def flat : List Rc → List UInt8
  | [] => []
  | r :: t => entry r ++ flat t
theorem flat_app (a b : List Rc) : flat (a ++ b) = flat a ++ flat b := by
  induction a with
  | nil => rfl
  | cons x t ih => rw [List.cons_append, flat, flat, ih, List.append_assoc]
def allOk (l : List Rc) : Prop := ∀ r ∈ l, recOk r = true
theorem putRec_pos {r : Rc} (h : recOk r = true) : 1 ≤ (putRec r).length := by unfold putRec; rw [if_pos h]; simp
theorem putRec_len {r : Rc} : (putRec r).length ≤ 21 := by
  by_cases h : recOk r = true
  · have hb := recOk_bd h
    unfold putRec
    rw [if_pos h]
    have h1 := putNum_le r.app
    have h2 : (putText r.queue).length ≤ 15 := by
      unfold putText
      rw [if_pos (by omega), List.length_append]
      have := put_le5 (u := r.queue.length) (by omega)
      omega
    simp only [List.length_cons, List.length_append]
    omega
  · unfold putRec
    rw [if_neg h]
    simp
theorem entry_len (r : Rc) : (entry r).length ≤ 30 := by
  unfold entry
  rw [List.length_append]
  have h0 := putRec_len (r := r)
  have h1 : (putText (putRec r)).length ≤ 26 := by
    unfold putText
    rw [if_pos (by omega), List.length_append]
    have := put_le5 (u := (putRec r).length) (by omega)
    omega
  have h2 : (word (crc (putRec r))).length = 4 := rfl
  omega
theorem word_at (s : ByteArray) (i : Nat) (x : List UInt8) (c : Nat) (hc : c < 4294967296) (h : s.data.toList.drop i = word c ++ x) : i + 4 ≤ s.size ∧ svN s i 4 = c := by
  have hlen := congrArg List.length h
  have h4 : (word c).length = 4 := rfl
  simp only [List.length_drop, List.length_append, h4, len_eq] at hlen
  have h5 : i + 4 ≤ s.size := by omega
  refine ⟨h5, ((word_sv s i h5 c hc).1 ?_).symm⟩
  rw [extract_pre]
  unfold pre
  rw [h]
  congr 1
/-- an entry that stands there is read -/
theorem entry_read (s : ByteArray) (i : Nat) (r : Rc) (z : List UInt8) (ho : recOk r = true) (h : s.data.toList.drop i = entry r ++ z) : readEntry s i = some (r, ((i + (entry r).length : Nat) : Int)) := by
  have hc : crc (putRec r) < 4294967296 := xor_lt32 (crcTo_lt _) (by decide)
  unfold entry at h
  rw [List.append_assoc] at h
  obtain ⟨h4, hv⟩ := word_at s i _ _ hc h
  have hd : s.data.toList.drop (i + 4) = putText (putRec r) ++ z := by
    rw [← List.drop_drop, h]
    rfl
  have hl := putRec_len (r := r)
  have ht := getText_at s.data.toList (i + 4) (putRec r) z (by omega) hd
  rw [entry_of h4, ht]
  simp only
  rw [if_neg (by omega), gotRec_put ho]
  simp only
  rw [if_pos hv.symm]
  congr 2
  unfold entry
  rw [List.length_append]
  have : (word (crc (putRec r))).length = 4 := rfl
  omega
/-- what is read is an entry that stands there -/
theorem entry_bytes {s : ByteArray} {i : Nat} {r : Rc} {j : Int} (h : readEntry s i = some (r, j)) : recOk r = true ∧ j = ((i + (entry r).length : Nat) : Int) ∧ s.data.toList.drop i = entry r ++ s.data.toList.drop j.toNat := by
  have hon := entry_on h
  have h4 : i + 4 ≤ s.size := by
    apply Nat.le_of_not_lt
    intro hlt
    rw [entry_short (by omega)] at h
    exact absurd h (by simp)
  rw [entry_of h4] at h
  split at h
  · exact absurd h (by simp)
  · rename_i hj
    obtain ⟨_, hl, hsp, _⟩ := getText_split _ _ hj
    obtain ⟨⟨t, k⟩, htk⟩ : ∃ x, getText s.data.toList ((i + 4 : Nat) : Int) = x := ⟨_, rfl⟩
    rw [htk] at h hj hl hsp
    simp only at h hj hl hsp
    split at h
    · exact absurd h (by simp)
    · rename_i r' hr
      split at h
      · rename_i hcr
        simp only [Option.some.injEq, Prod.mk.injEq] at h
        obtain ⟨rfl, rfl⟩ := h
        obtain ⟨hp, ho⟩ := gotRec_back hr
        subst hp
        have hc : crc (putRec r') < 4294967296 := xor_lt32 (crcTo_lt _) (by decide)
        have hw := (word_sv s i h4 _ hc).2 hcr
        have hw2 : (s.data.toList.drop i).take 4 = word (crc (putRec r')) := by
          rw [extract_pre] at hw
          have := congrArg (fun x : ByteArray => x.data.toList) hw
          simpa [bs, pre] using this
        have hb : s.data.toList.drop i = entry r' ++ s.data.toList.drop k.toNat := by
          unfold entry
          rw [List.append_assoc, ← hw2]
          have hsp' : s.data.toList.drop (i + 4) = putText (putRec r') ++ s.data.toList.drop k.toNat := hsp
          rw [← hsp', ← List.drop_drop, List.take_append_drop]
        refine ⟨ho, ?_, hb⟩
        have hlen := congrArg List.length hb
        rw [List.length_append, List.length_drop, List.length_drop, len_eq] at hlen
        omega
      · exact absurd h (by simp)
/-- what is read of a log stands at its beginning -/
theorem readF_flat (s : ByteArray) : ∀ (n i : Nat) (acc : List Rc), i ≤ s.size → s.data.toList.take i = flat acc → allOk acc →
    ∃ E : Nat, (readF s n i acc).2 = (E : Int) ∧ E ≤ s.size ∧ s.data.toList.take E = flat (readF s n i acc).1 ∧ allOk (readF s n i acc).1
  | 0, i, acc, h0, h1, h2 => ⟨i, rfl, h0, h1, h2⟩
  | n + 1, i, acc, h0, h1, h2 => by
    by_cases hd : s.size ≤ i
    · rw [readF_done hd]; exact ⟨i, rfl, h0, h1, h2⟩
    · cases hx : readEntry s i with
      | none => rw [readF_none hx]; exact ⟨i, rfl, h0, h1, h2⟩
      | some y =>
        obtain ⟨r, j⟩ := y
        obtain ⟨ho, hj, hb⟩ := entry_bytes hx
        have he := entry_on hx
        rw [readF_some (by omega) hx]
        refine readF_flat s n j.toNat _ (by omega) ?_ ?_
        · have hjn : j.toNat = i + (entry r).length := by omega
          rw [hjn, List.take_add, h1, hb, List.take_left, flat_app]
          simp [flat]
        · intro x hx'
          rcases List.mem_append.1 hx' with h | h
          · exact h2 x h
          · simp at h; subst h; exact ho
/-- a log that begins with entries is read up to their end -/
theorem readF_go (s : ByteArray) : ∀ (l : List Rc) (n i : Nat) (acc : List Rc) (z : List UInt8), allOk l → s.data.toList.drop i = flat l ++ z → l.length ≤ n → readF s n i acc = readF s (n - l.length) (i + (flat l).length) (acc ++ l)
  | [], n, i, acc, z, _, _, _ => by simp [flat]
  | r :: t, n, i, acc, z, ho, h, hn => by
    have hr : recOk r = true := ho r (by simp)
    rw [flat, List.append_assoc] at h
    have hx := entry_read s i r _ hr h
    have hlen := congrArg List.length h
    have hp := entry_on hx
    obtain ⟨m, rfl⟩ : ∃ m, n = m + 1 := ⟨n - 1, by simp at hn; omega⟩
    rw [readF_some (by omega) hx, Int.toNat_natCast]
    rw [readF_go s t m (i + (entry r).length) (acc ++ [r]) z (fun x hx => ho x (by simp [hx])) (by rw [← List.drop_drop, h, List.drop_left]) (by simp at hn; omega)]
    rw [flat, List.length_append]
    simp only [List.length_cons, List.append_assoc, List.cons_append, List.nil_append]
    congr 1 <;> omega
theorem flat_len : ∀ (l : List Rc), allOk l → 5 * l.length ≤ (flat l).length
  | [], _ => by simp
  | r :: t, h => by
    have := flat_len t (fun x hx => h x (by simp [hx]))
    have h1 : 5 ≤ (entry r).length := by
      unfold entry
      rw [List.length_append]
      have h2 : (word (crc (putRec r))).length = 4 := rfl
      have h3 := putRec_pos (h r (by simp))
      have h4 : 1 ≤ (putText (putRec r)).length := by
        unfold putText
        rw [if_pos (by have := putRec_len (r := r); omega), List.length_append]
        omega
      omega
    rw [flat, List.length_append]
    simp
    omega
/-- a log of entries with a rest behind them of which none is read -/
theorem readV_rest (l : List Rc) (z : List UInt8) (ho : allOk l) (hs : (flat l ++ z).length ≤ 60000) (hz : z = [] ∨ readEntry (bs (flat l ++ z)) (flat l).length = none) : readV (bs (flat l ++ z)) = (l, ((flat l).length : Int)) := by
  have hsz : (bs (flat l ++ z)).size = (flat l ++ z).length := bs_size _
  have hf := flat_len l ho
  unfold readV
  rw [if_neg (by omega), readF_go (bs (flat l ++ z)) l _ 0 [] z ho rfl (by rw [hsz, List.length_append]; omega)]
  obtain ⟨m, hm⟩ : ∃ m, (bs (flat l ++ z)).size + 1 - l.length = m + 1 := ⟨(bs (flat l ++ z)).size - l.length, by rw [hsz, List.length_append]; omega⟩
  rw [hm, Nat.zero_add, List.nil_append]
  rcases hz with rfl | h
  · exact readF_done (by rw [hsz]; simp)
  · exact readF_none h
/-- a log is what was read of it, and a rest -/
theorem readV_flat (s : ByteArray) (hs : s.size ≤ 60000) : ∃ E : Nat, (readV s).2 = (E : Int) ∧ E ≤ s.size ∧ s.data.toList.take E = flat (readV s).1 ∧ allOk (readV s).1 := by
  have h := readF_flat s (s.size + 1) 0 [] (by omega) (by simp [flat]) (fun r h => by simp at h)
  unfold readV
  rw [if_neg (by omega)]
  exact h
end Go.Proofs.YtkpmocbfedgfhaaGreat
