/-
  Several texts of this claim in one: RcvN, AppR, StEnd, GrowS, AppN (pack.py put them together); each says in its own remark what is proved.
-/
import Derived.Test.YtkpmocbfedgfhaaGreatPackL
import Derived.Test.YtkpmocbfedgfhaaGreatPackP
import Derived.Test.YtkpmocbfedgfhaaGreatPackH
import Derived.ArgAppend
import Derived.Deep.AppendLies
import Derived.Test.YtkpmocbfedgfhaaGreatPackN
import Derived.Laws.Rows
import Derived.Laws.Tables
import Derived.Test.YtkpmocbfedgfhaaGreatPackJ
import Derived.Test.YtkpmocbfedgfhaaGreatPackK
import Derived.Test.YtkpmocbfedgfhaaGreatPackA
import Derived.Laws.AppendOwnNone
import Derived.Laws.AppendOwn
/-
  What is done is not there; of a log that is cut behind its last whole record as much is left: plain words.
-/
namespace Go.Proofs.YtkpmocbfedgfhaaGreat
open Go.RowKit
set_option linter.unusedVariables false
theorem apply_keeps {s : St} {r : Rc} {x : Int} (h : ∀ a ∈ s.apps, a.id ≠ x) (hr : ¬ (r.kind = 0 ∧ r.app = x)) : ∀ a ∈ (applyV s r).apps, a.id ≠ x := by
  by_cases k2 : r.kind = 2
  · by_cases he : s.epoch < 900000
    · rw [apply_epoch k2 he]; exact h
    · rw [apply_last k2 he]; exact h
  · by_cases k0 : r.kind = 0
    · by_cases hc : lone s.qs r.queue = true ∧ s.next ≤ r.app ∧ r.app ≤ s.epoch * 1000 + 999 ∧ s.apps.length < 40
      · rw [apply_app k0 hc]
        intro a ha
        rcases List.mem_append.1 ha with ha | ha
        · exact h a ha
        · obtain rfl := List.mem_singleton.1 ha
          exact fun e => hr ⟨k0, e⟩
      · rw [apply_not k0 hc]; exact h
    · by_cases k1 : r.kind = 1
      · rw [apply_done k1]
        exact fun a ha => h a (List.mem_filter.1 ha).1
      · rw [apply_else k0 k1 k2]; exact h
theorem fold_keeps {x : Int} : ∀ (t : List Rc) (s : St), (∀ a ∈ s.apps, a.id ≠ x) → (∀ r ∈ t, ¬ (r.kind = 0 ∧ r.app = x)) → ∀ a ∈ (t.foldl applyV s).apps, a.id ≠ x
  | [], s, h, _ => h
  | r :: t, s, h, hr => fold_keeps t (applyV s r) (apply_keeps h (hr r (by simp))) (fun q hq => hr q (by simp [hq]))
/-- whether a record behind one takes the same application on -/
def laterB (rs : List Rc) (i : Nat) (x : Int) : Bool := (rs.drop (i + 1)).any (fun r => decide (r.kind = 0) && decide (r.app = x))
theorem done_gone {l : List Q} {rs : List Rc} {i : Nat} (hi : i < rs.length) (hk : rs[i].kind = 1) (hn : laterB rs i rs[i].app = false) : ∀ a ∈ (recV l rs).apps, a.id ≠ rs[i].app := by
  have e : recV l rs = (rs.drop (i + 1)).foldl applyV (applyV (recV l (rs.take i)) rs[i]) := by
    rw [← recV_take hi]
    unfold recV
    rw [← List.foldl_append, List.take_append_drop]
  rw [e]
  refine fold_keeps _ _ ?_ (fun r hr => ?_)
  · rw [apply_done hk]
    intro a ha
    simpa using (List.mem_filter.1 ha).2
  · have h := (List.any_eq_false.1 hn) r hr
    simpa using h
theorem done_find {l : List Q} {rs : List Rc} {i : Nat} (hi : i < rs.length) (hk : rs[i].kind = 1) (hn : laterB rs i rs[i].app = false) : findAp rs[i].app (recV l rs).apps = none := by
  have h := done_gone (l := l) hi hk hn
  unfold findAp
  rw [List.find?_eq_none]
  intro a ha
  simpa using h a ha
/-- the log cut behind its last whole record tells as much -/
theorem readV_cut (s : ByteArray) (hs : s.size ≤ 60000) : ∃ E : Nat, (readV s).2 = (E : Int) ∧ E ≤ s.size ∧ (readV (bs (s.data.toList.take E))).1 = (readV s).1 := by
  obtain ⟨E, h1, h2, h3, h4⟩ := readV_flat s hs
  refine ⟨E, h1, h2, ?_⟩
  have h5 : (flat (readV s).1 ++ []).length ≤ 60000 := by
    rw [List.append_nil, ← h3, List.length_take]
    have : s.data.toList.length = s.size := len_eq s
    omega
  have := readV_rest (readV s).1 [] h4 h5 (.inl rfl)
  rw [List.append_nil, ← h3] at this
  rw [this]
end Go.Proofs.YtkpmocbfedgfhaaGreat

/-
  One more appended to a row that has the room that it says, or none: in place, or in a new block.
-/
namespace Go.Proofs.YtkpmocbfedgfhaaGreat
open Go.RowKit
set_option linter.unusedVariables false
theorem lay_of {w : World} {t : TypeId} {g N : Nat} {cs : List Value} (hc : Cel w t g N) (h : ∀ j u, cs[j]? = some u → w.cell? ⟨g, j, none⟩ = some u) (hl : cs.length ≤ N) : Lay w t g N cs := by
  obtain ⟨arr, h1, h2⟩ := hc
  refine ⟨arr.toList.drop cs.length, ?_, by simp; omega⟩
  have e : cs ++ arr.toList.drop cs.length = arr.toList := by
    apply List.ext_getElem?
    intro j
    by_cases hj : j < cs.length
    · rw [List.getElem?_append_left hj]
      have h3 := h j cs[j] (List.getElem?_eq_getElem hj)
      simp [World.cell?, h1] at h3
      rw [List.getElem?_eq_getElem hj, Array.getElem?_toList]
      exact h3.symm
    · rw [List.getElem?_append_right (by omega), List.getElem?_drop]
      congr 1
      omega
  rw [e]
  simpa using h1
/-- many cells of the block are stored -/
theorem mks_cells {S : Nat → Prop} {g : Nat} (hg : S g) : ∀ (vs : List Value) (o : Nat) (a w : World), Mks S a w → Mks S a (w.setCells g o vs)
  | [], _, _, _, h => h
  | v :: r, o, a, w, h => mks_cells hg r (o + 1) a _ (h.sc g o v hg)
theorem Cel.isThere {w : World} {t : TypeId} {g N : Nat} (h : Cel w t g N) {j : Nat} (hj : j < N) : (w.cell? ⟨g, j, none⟩).isSome = true := by
  obtain ⟨arr, h1, h2⟩ := h
  have h3 : j < arr.size := by omega
  simp [World.cell?, h1, h3]
theorem below_none {w w' : World} (h : w.grownBy w' none) : Below w.heap.size w w' := (Below.refl _ w).grown h (Nat.le_refl _) (fun k e => by cases e)
/-- what stands behind the append: the row, its room, and that nothing else has turned -/
structure AppR (B : Nat) (w : World) (e : TypeId) (sz : Nat) (ao : Option Addr) (n : Nat) (all : List Value) (g cap : Nat) (w' : World) : Prop where
  cells : ∀ j u, all[j]? = some u → w'.cell? ⟨g, j, none⟩ = some u
  own : Own1 B w'.heap.size w' e sz (some ⟨g, 0, none⟩) cap
  cap : n ≤ cap
  mks : Mks (fun k => ∃ N, Cel w e k N ∧ B ≤ k) w w'
theorem wpList_append_rm {P : Program} (w : World) {ops : Array Oper} {rest : List Oper} {o : Oper} {a : Act} {Q : Exit → Act → World → Prop} (hgd : o.guard = none) (s x : Operand) (t : TypeId)
    (ho : o.op = .call { callee := .builtin .append, args := #[s, x], argTypes := #[t, t] })
    (e : TypeId) (i : TypeInfo) (z : Value) (size bytes : Nat) (ht : P.underlying t = some (.slice e)) (hi : P.info? e = some i) (hz : i.zero = some z)
    (hsize : i.size = size) (hby : i.bytes = bytes) (hzs : z.cells.size = size) (hsz : 0 < size)
    (B E : Nat) (ao : Option Addr) (n cap : Nat) (olds : List Value) (hs : a.eval s = .slice ao n cap) (hrm : Own1 B E w e size ao cap) (hnc : n ≤ cap) (hB : B ≤ w.heap.size)
    (hlo : olds.length = n * size) (holds : ∀ b off, ao = some ⟨b, off, none⟩ → ∀ j u, olds[j]? = some u → w.cell? ⟨b, off + j, none⟩ = some u)
    (ad : Addr) (m c : Nat) (news : List Value) (hx : a.eval x = .slice (some ad) m c) (hn : news.length = m * size) (hc : ∀ j u, news[j]? = some u → w.cell? (ad.add j) = some u) (h1c : ∀ u ∈ news, u.oneCell' = true) (hm : 0 < m)
    (b1 : n + m ≤ maxLen) (b2 : (n + m) * bytes ≤ 140737488355328)
    (h : ∀ g cap' w', AppR B w e size ao (n + m) (olds ++ news) g cap' w' → wpList P ops Q rest (a.put o.dst (.slice (some ⟨g, 0, none⟩) (n + m) cap')) w') : wpList P ops Q (o :: rest) a w := by
  by_cases hr : n + m ≤ cap
  · rcases hrm with e0 | ⟨g, M, rfl, h1, h2, h3, h4⟩
    · omega
    · have hle : (n + m) * size ≤ M * size := Nat.mul_le_mul_right _ (by omega)
      rw [Nat.add_mul] at hle
      refine wpList_append_arg w hgd s x t ho e i z size bytes ht hi hz hsize hby hzs hsz g 0 n cap olds hs hlo (fun j u hj => holds g 0 rfl j u hj) ad m c news hx hn hc h1c (fun _ j hj => ⟨h3.isThere (by omega), h3.frozen _⟩) b1 b2 (fun _ => h g cap _ ⟨fun j u hj => ?_, ?_, hr, mks_cells ⟨_, h3, h1⟩ _ _ _ _ (Mks.refl _ _)⟩) (fun hlt => by omega)
      · by_cases hj2 : j < olds.length
        · rw [List.getElem?_append_left hj2] at hj
          rw [World.cell?_setCells_out g news (0 + n * size) w ⟨g, j, none⟩ (fun _ _ => by left; show j < 0 + n * size; omega)]
          have := holds g 0 rfl j u hj
          rwa [Nat.zero_add] at this
        · rw [List.getElem?_append_right (by omega)] at hj
          have hjl : j - olds.length < news.length := (List.getElem?_eq_some_iff.1 hj).1
          have := World.cell?_setCells_in g news (0 + n * size) w (fun k hk => h3.isThere (by omega)) (j - olds.length) hjl
          rw [show 0 + n * size + (j - olds.length) = j by omega] at this
          rw [this]
          rw [List.getElem?_eq_getElem hjl] at hj
          exact hj
      · have hk : Mks (fun k => k = g) w (w.setCells g (0 + n * size) news) := mks_cells (S := fun k => k = g) rfl _ _ _ _ (Mks.refl _ _)
        exact .inr ⟨g, M, rfl, h1, Nat.lt_of_lt_of_le h3.lt hk.size, hk.cel _ _ _ h3, h4⟩
  · have hnone : ao = none → n = 0 ∧ cap = 0 := fun e0 => by
      rcases hrm with h0 | ⟨g, M, h1, _⟩
      · omega
      · rw [e0] at h1; cases h1
    refine wpList_append_grows w hgd s x t ho e i z size bytes ht hi hz hsize hby hzs hsz ao n cap olds hs hnone hlo (fun b hb j u hj => ?_) ad m c news hx hn hc h1c (by omega) b1 b2 (fun v' w' h1 h2 => ?_)
    · rcases hrm with h0 | ⟨g, M, h1, _⟩
      · have hn0 : n = 0 := by omega
        rw [hn0, Nat.zero_mul] at hlo
        rw [List.eq_nil_of_length_eq_zero hlo] at hj
        simp at hj
      · obtain rfl := Option.some.inj (hb.symm.trans h1)
        rw [Addr.add_lit]
        exact holds g 0 hb j u hj
    · obtain ⟨g, cap', rfl, hg1, hg2⟩ := h1.form (by omega)
      have hb := below_none h2
      rcases h1.2 with ⟨e0, _⟩ | ⟨g', c', cur, e0, k1, k2, k3, k4, k5, k6⟩
      · cases e0
      · cases e0
        refine h g cap' w' ⟨fun j u hj => ?_, .inr ⟨g, cap', rfl, by omega, lt_of_block k2, ⟨cur, k2, k5⟩, Nat.le_refl _⟩, k3, Mks.of_below hb⟩
        have hjl : j < (olds ++ news).length := (List.getElem?_eq_some_iff.1 hj).1
        rw [← k6] at hj hjl
        rw [List.length_take] at hjl
        rw [List.getElem?_take_of_lt (by omega)] at hj
        simp [World.cell?, k2]
        simpa using hj
end Go.Proofs.YtkpmocbfedgfhaaGreat

/-
  A state in its box, read and stored as a whole; rows of other types stand while a row of applications turns.
-/
namespace Go.Proofs.YtkpmocbfedgfhaaGreat
open Go.RowKit
set_option linter.unusedVariables false
theorem st_info : (Tryz.prog.info? 31).map (·.size) = some 8 := by kernel_rfl
theorem st_load {w : World} {b : Nat} {arr : Array Value} (h : Blk w b arr 31) (hs : arr.size = 8) : (Instr.loadAt 31 (.pointer (some ⟨b, 0, none⟩))).run Tryz.prog w = .ok (.agg arr) w := by
  simp only [Instr.loadAt, Instr.sureAddr, Sem.run_bind, Sem.run_pure, Result.andThen]
  exact run_loadVar_row w b 31 31 arr (0, 0) _ h Tryz.underlying31 rfl (by rw [st_info, hs])
theorem st_store {w : World} {b : Nat} {old arr : Array Value} (h : Blk w b old 31) (ho : old.size = 8) (hs : arr.size = 8) (h1 : arr.all (·.oneCell') = true) : (Instr.storeAt 31 (.pointer (some ⟨b, 0, none⟩)) (.agg arr)).run Tryz.prog w = .ok () (w.setRow b arr) := by
  simp only [Instr.storeAt, Instr.sureAddr, Sem.run_bind, Sem.run_pure, Result.andThen]
  exact run_storeVar_row w b 31 31 old arr h (by rw [st_info, hs]) (by rw [ho, hs]) h1
theorem blk_row {w : World} {b : Nat} {old : Array Value} {t : TypeId} (h : Blk w b old t) (arr : Array Value) : Blk (w.setRow b arr) b arr t := setRow_heap w b old arr t (0, 0) h
theorem mks_row {w : World} {b : Nat} {old : Array Value} {t : TypeId} (h : Blk w b old t) (arr : Array Value) (hs : arr.size = old.size) : Mks (fun k => k = b) w (w.setRow b arr) := by
  refine ⟨rfl, rfl, rfl, by rw [setRow_size]; exact Nat.le_refl _, fun k _ hk => setRow_other w b k arr hk, fun t' g N hc => ?_⟩
  by_cases e : g = b
  · subst e
    obtain ⟨c, h1, h2⟩ := hc
    rw [h] at h1
    cases h1
    exact ⟨arr, blk_row h arr, by omega⟩
  · exact hc.of_block (setRow_other w b g arr e)
theorem own_mkc {B : Nat} {S : Nat → Prop} {w w' : World} {t t' : TypeId} {sz n : Nat} {ao : Option Addr} (h : Own1 B w.heap.size w t sz ao n) (hm : Mks S w w') (hS : ∀ k, S k → ∃ N, Cel w t' k N) (ht : t' ≠ t) : (∀ k, inR ao n k → ¬ S k) ∧ Own1 B w'.heap.size w' t sz ao n := by
  refine ⟨fun k hk e => ?_, (h.mks hm).mono (Nat.le_refl _) hm.size⟩
  obtain ⟨_, _, N', h2⟩ := h.lies k hk
  obtain ⟨N, h3⟩ := hS k e
  exact ht (h3.type h2)
section
variable {B : Nat} {S : Nat → Prop} {w w' : World}
theorem QHas.mkc {n : Nat} {ao : Option Addr} {l : List Q} (h : QHas B w ao n l) (hm : Mks S w w') (hS : ∀ k, S k → ∃ N, Cel w 44 k N) : QHas B w' ao n l :=
  ⟨h.1.mks hm (own_mkc h.2 hm hS (by decide)).1, (own_mkc h.2 hm hS (by decide)).2⟩
theorem MHas.mkc {n : Nat} {ao : Option Addr} {l : List Mac} (h : MHas B w ao n l) (hm : Mks S w w') (hS : ∀ k, S k → ∃ N, Cel w 44 k N) : MHas B w' ao n l :=
  ⟨h.1.mks hm (own_mkc h.2 hm hS (by decide)).1, (own_mkc h.2 hm hS (by decide)).2⟩
theorem CHas.mkc {n : Nat} {ao : Option Addr} {l : List Con} (h : CHas B w ao n l) (hm : Mks S w w') (hS : ∀ k, S k → ∃ N, Cel w 44 k N) : CHas B w' ao n l :=
  ⟨h.1.mks hm (own_mkc h.2 hm hS (by decide)).1, (own_mkc h.2 hm hS (by decide)).2⟩
theorem KHas.mkc {hs : List AV} {l : List Appl} (h : KHas B w hs l) (hm : Mks S w w') (hS : ∀ k, S k → ∃ N, Cel w 44 k N) : KHas B w' hs l :=
  ⟨⟨h.heads.1, fun i h1 h2 => let ⟨a, b', c, d⟩ := h.heads.2 i h1 h2; ⟨a, b', c.mks hm (own_mkc (h.own _ (List.getElem_mem h1)) hm hS (by decide)).1, d⟩⟩, fun v hv => (own_mkc (h.own v hv) hm hS (by decide)).2, h.apart⟩
end
theorem Own1.le {B E : Nat} {w : World} {t : TypeId} {sz n m : Nat} {ao : Option Addr} (h : Own1 B E w t sz ao n) (hm : m ≤ n) : Own1 B E w t sz ao m := by
  rcases h with h | ⟨g, M, h1, h2, h3, h4, h5⟩
  · exact .inl (by omega)
  · exact .inr ⟨g, M, h1, h2, h3, h4, by omega⟩
/-- one more application, without an ask, behind the others -/
theorem SHas.add {B g cap : Nat} {w w' : World} {x : Sls} {s : St} {hs : List AV} (h : SHas B w x s hs) (hB : B ≤ w.heap.size) (app nx : Int) (qu : List UInt8)
    (ha : AppR B w 44 3 x.aa (x.al + 1) (pcells hs ++ pcell ⟨app, qu, none, 0, 0⟩) g cap w') :
    SHas B w' ⟨x.qa, x.ql, x.qc, some ⟨g, 0, none⟩, x.al + 1, cap, x.ma, x.ml, x.mc, x.ca, x.cl, x.cc⟩ ⟨s.qs, s.clock, s.epoch, nx, s.serial, s.apps ++ [⟨app, qu, []⟩], s.ms, s.cs⟩ (hs ++ [⟨app, qu, none, 0, 0⟩]) := by
  have hS : ∀ k, (∃ N, Cel w 44 k N ∧ B ≤ k) → ∃ N, Cel w 44 k N := fun k hk => let ⟨N, a, _⟩ := hk; ⟨N, a⟩
  have hal : x.al = hs.length := h.p.1.1
  have hrm := (h.rm.mks ha.mks).mono (Nat.le_refl B) ha.mks.size
  have hk := h.k.mkc ha.mks hS
  refine ⟨h.q.mkc ha.mks hS, ⟨?_, ha.own.le ha.cap⟩, ?_, h.m.mkc ha.mks hS, h.c.mkc ha.mks hS, ⟨h.cap.q, ha.cap, h.cap.m, h.cap.c⟩, ⟨hrm.1, ha.own, hrm.2.2.1, hrm.2.2.2.1, fun v hv => ?_⟩⟩
  · rcases ha.own with e | ⟨g', M, e, _, _, hc, hM⟩
    · have := ha.cap; omega
    · cases e
      have hl : (pcells (hs ++ [⟨app, qu, none, 0, 0⟩])).length ≤ M * 3 := by
        rw [pcells_len, List.length_append]
        exact Nat.mul_le_mul_right _ (by have := ha.cap; simp; omega)
      have := (lay_of hc (cs := pcells (hs ++ [⟨app, qu, none, 0, 0⟩])) (by rw [pcells_app]; exact ha.cells) hl).rowP
      rw [List.length_append] at this
      rw [hal]
      exact this
  · exact hk.snoc (Below.refl _ _) (Nat.le_trans hB ha.mks.size) app qu none 0 [] (Nat.le_refl _) ⟨rfl, .inl rfl⟩ (.inl rfl)
  · rcases List.mem_append.1 hv with hv | hv
    · exact hrm.2.2.2.2 v hv
    · obtain rfl := List.mem_singleton.1 hv
      exact .inl rfl
end Go.Proofs.YtkpmocbfedgfhaaGreat

/-
  Rows that stand while another grows.
-/
namespace Go.Proofs.YtkpmocbfedgfhaaGreat
open Go.RowKit
set_option linter.unusedVariables false
theorem cellEq {w w' : World} {b p : Nat} {u : Value} (h : w.cell? ⟨b, p, none⟩ = some u) (hb : w'.heap[b]? = w.heap[b]?) : w'.cell? ⟨b, p, none⟩ = some u := (World.cell?_of_block (w := w) (a := ⟨b, p, none⟩) hb).trans h
theorem QRow.kept {w w' : World} {ao : Option Addr} {len : Nat} {l : List Q} (h : QRow w ao len l) (hs : ∀ k, inR ao len k → w'.heap[k]? = w.heap[k]?) : QRow w' ao len l := by
  obtain ⟨h1, h2⟩ := h
  refine ⟨h1, ?_⟩
  rcases h2 with h2 | ⟨b, off, h3, h4⟩
  · exact .inl h2
  · by_cases hz : len = 0
    · exact .inl hz
    · have hb := hs b ⟨hz, off, h3⟩
      exact .inr ⟨b, off, h3, fun i h => let ⟨a, c, d, e⟩ := h4 i h; ⟨cellEq a hb, cellEq c hb, cellEq d hb, cellEq e hb⟩⟩
theorem MacRow.kept {w w' : World} {ao : Option Addr} {len : Nat} {l : List Mac} (h : MacRow w ao len l) (hs : ∀ k, inR ao len k → w'.heap[k]? = w.heap[k]?) : MacRow w' ao len l := by
  obtain ⟨h1, h2⟩ := h
  refine ⟨h1, ?_⟩
  rcases h2 with h2 | ⟨b, off, h3, h4⟩
  · exact .inl h2
  · by_cases hz : len = 0
    · exact .inl hz
    · have hb := hs b ⟨hz, off, h3⟩
      exact .inr ⟨b, off, h3, fun i h => let ⟨a, c, d, e⟩ := h4 i h; ⟨cellEq a hb, cellEq c hb, cellEq d hb, cellEq e hb⟩⟩
theorem ConRow.kept {w w' : World} {ao : Option Addr} {len : Nat} {l : List Con} (h : ConRow w ao len l) (hs : ∀ k, inR ao len k → w'.heap[k]? = w.heap[k]?) : ConRow w' ao len l := by
  obtain ⟨h1, h2⟩ := h
  refine ⟨h1, ?_⟩
  rcases h2 with h2 | ⟨b, off, h3, h4⟩
  · exact .inl h2
  · by_cases hz : len = 0
    · exact .inl hz
    · have hb := hs b ⟨hz, off, h3⟩
      exact .inr ⟨b, off, h3, fun i h => let ⟨a, c, d, e, f⟩ := h4 i h; ⟨cellEq a hb, cellEq c hb, cellEq d hb, cellEq e hb, cellEq f hb⟩⟩
theorem AskRow.kept {w w' : World} {ao : Option Addr} {len : Nat} {l : List Ask} (h : AskRow w ao len l) (hs : ∀ k, inR ao len k → w'.heap[k]? = w.heap[k]?) : AskRow w' ao len l := by
  obtain ⟨h1, h2⟩ := h
  refine ⟨h1, ?_⟩
  rcases h2 with h2 | ⟨b, off, h3, h4⟩
  · exact .inl h2
  · by_cases hz : len = 0
    · exact .inl hz
    · have hb := hs b ⟨hz, off, h3⟩
      exact .inr ⟨b, off, h3, fun i h => let ⟨a, c, d, e, f⟩ := h4 i h; ⟨cellEq a hb, cellEq c hb, cellEq d hb, cellEq e hb, cellEq f hb⟩⟩
theorem AVRow.kept {w w' : World} {ao : Option Addr} {len : Nat} {l : List AV} (h : AVRow w ao len l) (hs : ∀ k, inR ao len k → w'.heap[k]? = w.heap[k]?) : AVRow w' ao len l := by
  obtain ⟨h1, h2⟩ := h
  refine ⟨h1, ?_⟩
  rcases h2 with h2 | ⟨b, off, h3, h4⟩
  · exact .inl h2
  · by_cases hz : len = 0
    · exact .inl hz
    · have hb := hs b ⟨hz, off, h3⟩
      exact .inr ⟨b, off, h3, fun i h => let ⟨a, c, d⟩ := h4 i h; ⟨cellEq a hb, cellEq c hb, cellEq d hb⟩⟩

/-- a row grows: those of other types stand -/
theorem own_grown {B : Nat} {w w' : World} {t t' : TypeId} {sz n : Nat} {ao : Option Addr} {r : Option Nat} (h : Own1 B w.heap.size w t sz ao n) (hg : w.grownBy w' r) (hr : ∀ k, r = some k → ∃ N, Cel w t' k N) (ht : t' ≠ t) : (∀ k, inR ao n k → w'.heap[k]? = w.heap[k]?) ∧ Own1 B w'.heap.size w' t sz ao n := by
  have key : ∀ k, inR ao n k → w'.heap[k]? = w.heap[k]? := fun k hk => by
    obtain ⟨_, h2, N, h3⟩ := h.lies k hk
    refine hg.block k h2 (fun e => ?_)
    obtain ⟨N', h4⟩ := hr k e.symm
    exact ht (h4.type h3)
  refine ⟨key, ?_⟩
  rcases h with e | ⟨g, M, e, h1, h2, h3, h4⟩
  · exact .inl e
  · by_cases hz : n = 0
    · exact .inl hz
    · exact .inr ⟨g, M, e, h1, Nat.lt_of_lt_of_le h2 hg.size, h3.of_block (key g ⟨hz, 0, e⟩), h4⟩
theorem QHas.grown {B n : Nat} {w w' : World} {t' : TypeId} {ao : Option Addr} {l : List Q} {r : Option Nat} (h : QHas B w ao n l) (hg : w.grownBy w' r) (hr : ∀ k, r = some k → ∃ N, Cel w t' k N) (ht : t' ≠ 63) : QHas B w' ao n l := ⟨h.1.kept (own_grown h.2 hg hr ht).1, (own_grown h.2 hg hr ht).2⟩
theorem MHas.grown {B n : Nat} {w w' : World} {t' : TypeId} {ao : Option Addr} {l : List Mac} {r : Option Nat} (h : MHas B w ao n l) (hg : w.grownBy w' r) (hr : ∀ k, r = some k → ∃ N, Cel w t' k N) (ht : t' ≠ 61) : MHas B w' ao n l := ⟨h.1.kept (own_grown h.2 hg hr ht).1, (own_grown h.2 hg hr ht).2⟩
theorem CHas.grown {B n : Nat} {w w' : World} {t' : TypeId} {ao : Option Addr} {l : List Con} {r : Option Nat} (h : CHas B w ao n l) (hg : w.grownBy w' r) (hr : ∀ k, r = some k → ∃ N, Cel w t' k N) (ht : t' ≠ 119) : CHas B w' ao n l := ⟨h.1.kept (own_grown h.2 hg hr ht).1, (own_grown h.2 hg hr ht).2⟩
theorem PHas.grown {B n : Nat} {w w' : World} {t' : TypeId} {ao : Option Addr} {l : List AV} {r : Option Nat} (h : PHas B w ao n l) (hg : w.grownBy w' r) (hr : ∀ k, r = some k → ∃ N, Cel w t' k N) (ht : t' ≠ 44) : PHas B w' ao n l := ⟨h.1.kept (own_grown h.2 hg hr ht).1, (own_grown h.2 hg hr ht).2⟩
theorem KHas.grown {B : Nat} {w w' : World} {t' : TypeId} {hs : List AV} {l : List Appl} {r : Option Nat} (h : KHas B w hs l) (hg : w.grownBy w' r) (hr : ∀ k, r = some k → ∃ N, Cel w t' k N) (ht : t' ≠ 121) : KHas B w' hs l :=
  ⟨⟨h.heads.1, fun i h1 h2 => let ⟨a, b, c, d⟩ := h.heads.2 i h1 h2; ⟨a, b, c.kept (own_grown (h.own _ (List.getElem_mem h1)) hg hr ht).1, d⟩⟩, fun v hv => (own_grown (h.own v hv) hg hr ht).2, h.apart⟩
/-- the block of a row that is owned is a row of that type -/
theorem owns_cel {w : World} {B sz n : Nat} {e : TypeId} {v : Value} {xs : List Value} (h : w.ownsRow B e sz v n xs) : ∀ k, v.ownBlock = some k → ∃ N, Cel w e k N := fun k hk => by
  rcases h.2 with ⟨rfl, _⟩ | ⟨g, cap, cur, rfl, _, h2, _⟩
  · simp [Value.ownBlock] at hk
  · obtain rfl : g = k := by simpa [Value.ownBlock] using hk
    exact ⟨_, cur, h2, rfl⟩
theorem Blk.grown {w w' : World} {g : Nat} {arr : Array Value} {t t' : TypeId} {r : Option Nat} (h : Blk w g arr t) (hg : w.grownBy w' r) (hr : ∀ k, r = some k → ∃ N, Cel w t' k N) (ht : t' ≠ t) : Blk w' g arr t :=
  (hg.block g h.lt (fun e => by obtain ⟨N, h4⟩ := hr g e.symm; exact ht (h4.type ⟨arr, h, rfl⟩))).trans h
theorem grown_sc (w : World) (g j : Nat) (v : Value) : w.grownBy (w.setCell ⟨g, j, none⟩ v) (some g) := ⟨rfl, rfl, rfl, by simp [World.setCell], fun k _ hne => Below.heap_setCell _ _ _ _ (by show k ≠ g; intro e; exact hne (by rw [e]))⟩
/-- a list that is nil has no room -/
structure SSome (x : Sls) (hs : List AV) : Prop where
  q : x.qa = none → x.ql = 0 ∧ x.qc = 0
  m : x.ma = none → x.ml = 0 ∧ x.mc = 0
  c : x.ca = none → x.cl = 0 ∧ x.cc = 0
  k : ∀ v ∈ hs, v.ao = none → v.len = 0 ∧ v.cap = 0
theorem none_cap {B E : Nat} {w : World} {t : TypeId} {sz c n : Nat} {ao : Option Addr} (h : Own1 B E w t sz ao c) (hn : n ≤ c) (e : ao = none) : n = 0 ∧ c = 0 := by
  rcases h with h | ⟨g, M, h1, _⟩
  · omega
  · rw [e] at h1; cases h1
theorem SAns.some {B E : Nat} {w : World} {x : Sls} {s : St} {hs : List AV} (h : SAns B E w x s hs) : SSome x hs :=
  ⟨none_cap h.rm.1 h.cap.q, none_cap h.rm.2.2.1 h.cap.m, none_cap h.rm.2.2.2.1 h.cap.c, fun v hv => none_cap (h.rm.2.2.2.2 v hv) (by
    obtain ⟨i, hi, rfl⟩ := List.getElem_of_mem hv
    exact (h.heads.2 i hi (by rw [← h.heads.1]; exact hi)).2.2.2)⟩
end Go.Proofs.YtkpmocbfedgfhaaGreat

/-
  'append(own, src...)' where the source may be nil: one law for both.
-/
namespace Go.Proofs.YtkpmocbfedgfhaaGreat
open Go.RowKit
set_option linter.unusedVariables false
theorem wpList_append_opt {P : Program} (w : World) {ops : Array Oper} {rest : List Oper} {o : Oper} {a : Act} {Q : Exit → Act → World → Prop} (hgd : o.guard = none) (s x : Operand) (t : TypeId)
    (ho : o.op = .call { callee := .builtin .append, args := #[s, x], argTypes := #[t, t] })
    (base : Nat) (e : TypeId) (i : TypeInfo) (z : Value) (size bytes : Nat) (ht : P.underlying t = some (.slice e)) (hi : P.info? e = some i) (hz : i.zero = some z)
    (hsize : i.size = size) (hby : i.bytes = bytes) (hzs : z.cells.size = size) (hsz : 0 < size)
    (v : Value) (n : Nat) (xs : List Value) (hs : a.eval s = v) (hown : w.ownsRow base e size v n xs)
    (ao : Option Addr) (m c : Nat) (news : List Value) (hx : a.eval x = .slice ao m c) (hn : ao = none → m = 0 ∧ c = 0) (hl : news.length = m * size) (hnews : ∀ ad, ao = some ad → ∀ j u, news[j]? = some u → w.cell? (ad.add j) = some u) (h1 : ∀ u ∈ news, u.oneCell' = true)
    (h63 : n + m ≤ maxLen) (hbytes : (n + m) * bytes ≤ 140737488355328) (hbase : base ≤ w.heap.size)
    (h : ∀ v' w', w'.ownsRow base e size v' (n + m) (xs ++ news) → w.grownBy w' v.ownBlock → (v' = .slice none 0 0 ↔ v = .slice none 0 0 ∧ m = 0) → wpList P ops Q rest (a.put o.dst v') w') : wpList P ops Q (o :: rest) a w := by
  cases ao with
  | some ad => exact wpList_append_own w hgd s x t ho base e i z size bytes ht hi hz hsize hby hzs hsz v n xs hs hown ad m c news hx hl (hnews ad rfl) h1 h63 hbytes hbase h
  | none =>
    obtain ⟨rfl, rfl⟩ := hn rfl
    obtain rfl : news = [] := List.eq_nil_of_length_eq_zero (by omega)
    refine wpList_append_own_none hgd s x t ho base e i size ht hi v n xs hs hown hx (h v w (by simpa using hown) ⟨rfl, rfl, rfl, Nat.le_refl _, fun _ _ _ => rfl⟩ (by simp))
end Go.Proofs.YtkpmocbfedgfhaaGreat
