/-
  One put in its place by three appends, in a region that draws: what stands along the way.
-/
import Derived.Test.YtbgamlegiikggaaGreatPackC
import Derived.Laws.AppendOwn
import Derived.Lib.ItoaMem
namespace Go.Proofs.YtbgamlegiikggaaGreat
open Go.RowKit
set_option linter.unusedVariables false

/-- a row that is gathered, from block B on; never nil -/
def IRow (E : TypeId) (sz B : Nat) (w : World) (v : Value) (n : Nat) (xs : List Value) : Prop := w.ownsRow B E sz v n xs ∧ v ≠ .slice none 0 0
theorem irow_new {E : TypeId} {sz : Nat} {w1 w : World} (h : Below w1.heap.size w1 w) : IRow E sz w1.heap.size (w.alloc (.cells #[] E)) (.slice (some ⟨w.heap.size, 0, none⟩) 0 0) 0 [] :=
  ⟨⟨by simp, .inr ⟨w.heap.size, 0, #[], rfl, h.size, by show (w.heap.push _)[w.heap.size]? = _; simp, Nat.le_refl _, by unfold maxLen; omega, by simp, by simp⟩⟩, by simp⟩
theorem IRow.al {E : TypeId} {sz B n : Nat} {w : World} {v : Value} {xs : List Value} (h : IRow E sz B w v n xs) (o : Obj) : IRow E sz B (w.alloc o) v n xs := ⟨h.1.alloc o, h.2⟩
theorem IRow.open {E : TypeId} {sz B n : Nat} {w : World} {v : Value} {xs : List Value} (h : IRow E sz B w v n xs) : ∃ g cap, v = .slice (some ⟨g, 0, none⟩) n cap ∧ B ≤ g ∧ w.ownsRow g E sz (.slice (some ⟨g, 0, none⟩) n cap) n xs ∧ n ≤ cap := by
  obtain ⟨⟨h1, h2⟩, h3⟩ := h
  rcases h2 with ⟨e, _⟩ | ⟨g, cap, cur, rfl, hg, hb, hc, k⟩
  · exact absurd e h3
  · exact ⟨g, cap, rfl, hg, ⟨h1, .inr ⟨g, cap, cur, rfl, Nat.le_refl _, hb, hc, k⟩⟩, hc⟩
/-- what is put in its place lies in a block of its own -/
def IBox (E : TypeId) (w1 w : World) (gb : Nat) (c : Array Value) : Prop := w1.heap.size ≤ gb ∧ w.heap[gb]? = some (.cells c E (0, 0))
theorem ibox_new {E : TypeId} {w1 w : World} (h : Below w1.heap.size w1 w) (c : Array Value) : IBox E w1 (w.alloc (.cells c E)) w.heap.size c := ⟨h.size, by show (w.heap.push _)[w.heap.size]? = _; simp⟩
theorem IBox.lt {E : TypeId} {w1 w : World} {gb : Nat} {c : Array Value} (h : IBox E w1 w gb c) : gb < w.heap.size := (Array.getElem?_eq_some_iff.1 h.2).1
theorem IBox.al {E : TypeId} {w1 w : World} {gb : Nat} {c : Array Value} (h : IBox E w1 w gb c) (o : Obj) : IBox E w1 (w.alloc o) gb c := ⟨h.1, by
  have := h.lt
  show (w.heap.push o)[gb]? = _
  rw [Array.getElem?_push, if_neg (by omega)]; exact h.2⟩
theorem IBox.same {E : TypeId} {w1 w w' : World} {gb : Nat} {c : Array Value} (h : IBox E w1 w gb c) (e : w'.heap[gb]? = w.heap[gb]?) : IBox E w1 w' gb c := ⟨h.1, e.trans h.2⟩
theorem IBox.news {E : TypeId} {w1 w : World} {gb : Nat} {c : Array Value} (h : IBox E w1 w gb c) : ∀ i u, c.toList[i]? = some u → w.cell? (Addr.add ⟨gb, 0, none⟩ i) = some u := fun i u hu => by
  rw [Lib.add_plain, Nat.zero_add]
  rw [Array.getElem?_toList] at hu
  simp [World.cell?, h.2, hu]
theorem ins_app {P : Program} {w1 w : World} {ops : Array Oper} {o : Oper} {a : Act} {K : Act → World → Prop} {Q : Exit → Act → World → Prop} {Ex : Prop} (hgd : o.guard = none) (s x : Operand) (t : TypeId)
    (ho : o.op = .call { callee := .builtin .append, args := #[s, x], argTypes := #[t, t] })
    (E : TypeId) (i : TypeInfo) (z : Value) (size bytes : Nat) (ht : P.underlying t = some (.slice E)) (hi : P.info? E = some i) (hz : i.zero = some z)
    (hsize : i.size = size) (hby : i.bytes = bytes) (hzs : z.cells.size = size) (hsz : 0 < size)
    (v : Value) (n : Nat) (xs : List Value) (hs : a.eval s = v) (hr : IRow E size w1.heap.size w v n xs) (kp : Below w1.heap.size w1 w)
    (ad : Addr) (m c : Nat) (news : List Value) (hx : a.eval x = .slice (some ad) m c) (hl : news.length = m * size) (hnews : ∀ j u, news[j]? = some u → w.cell? (ad.add j) = some u) (h1 : ∀ u ∈ news, u.oneCell' = true)
    (h63 : n + m ≤ maxLen) (hbytes : (n + m) * bytes ≤ 140737488355328)
    (h : ∀ v' w', IRow E size w1.heap.size w' v' (n + m) (xs ++ news) → Below w1.heap.size w1 w' → (∀ k, k < w.heap.size → some k ≠ v.ownBlock → w'.heap[k]? = w.heap[k]?) → K (a.put o.dst v') w') :
    if Region.wanted o (yielded ops a.tmps) = true then Oper.wp P o a w K Q else Ex := by
  have hw : Region.wanted o (yielded ops a.tmps) = true := by simp [Region.wanted, hgd]
  rw [if_pos hw]
  refine wp_append_own w s x t ho w1.heap.size E i z size bytes ht hi hz hsize hby hzs hsz v n xs hs hr.1 ad m c news hx hl hnews h1 h63 hbytes kp.size ?_
  intro v' w' hown hg hn
  refine h v' w' ⟨hown, fun e => hr.2 (hn.1 e).1⟩ (kp.grown hg kp.size ?_) (fun k hk hne => hg.block k hk hne)
  intro k hk
  rcases hr.1.2 with ⟨rfl, _⟩ | ⟨g, cap, cur, rfl, hg', _⟩
  · simp [Value.ownBlock] at hk
  · simp [Value.ownBlock] at hk; omega
theorem owns_re {E : TypeId} {sz B n n' : Nat} {w : World} {v : Value} {xs xs' : List Value} (h : IRow E sz B w v n xs) (hn : n = n') (hx : xs = xs') : IRow E sz B w v n' xs' := by subst hn hx; exact h
/-- where what stands behind a place begins -/
def hiA (g cap k sz : Nat) : Addr := if cap = k then ⟨g, 0, none⟩ else ⟨g, k * sz, none⟩
theorem hiA_at {g cap k sz : Nat} (h : k < cap) (i : Nat) : (hiA g cap k sz).add i = ⟨g, k * sz + i, none⟩ := by
  rw [hiA, if_neg (by omega), Lib.add_plain]
set_option maxRecDepth 100000 in
theorem cutS_lo (g n cap k : Nat) (hk : k ≤ cap) (wx : World) : (Instr.slice 29 (.slice (some ⟨g, 0, none⟩) n cap) none (some (.int .i64 (k : Int))) none).run Tryz.prog wx = .ok (.slice (some ⟨g, 0, none⟩) k cap) wx := by
  rw [run_slice_h (P := Tryz.prog) (w := wx) 29 (some ⟨g, 0, none⟩) n cap Tryz.underlying29 .i64 (k : Int) (by omega) (by omega)]
  rw [show (sizeOf (Tryz.prog.elem 29)).run Tryz.prog wx = .ok 1 wx from by kernel_rfl]
  simp [Result.andThen, sliced, Addr.add]
set_option maxRecDepth 100000 in
theorem cutS_hi (g n cap k : Nat) (hk : k ≤ n) (wx : World) : (Instr.slice 29 (.slice (some ⟨g, 0, none⟩) n cap) (some (.int .i64 (k : Int))) none none).run Tryz.prog wx = .ok (.slice (some (hiA g cap k 1)) (n - k) (cap - k)) wx := by
  rw [run_slice_l (P := Tryz.prog) (w := wx) 29 (some ⟨g, 0, none⟩) n cap Tryz.underlying29 .i64 (k : Int) (by omega) (by omega)]
  rw [show (sizeOf (Tryz.prog.elem 29)).run Tryz.prog wx = .ok 1 wx from by kernel_rfl]
  simp only [Result.andThen, sliced, Int.toNat_natCast, hiA]
  by_cases h : cap = k
  · rw [if_pos h, if_pos h]
  · rw [if_neg h, if_neg h]
    simp [Addr.add]
    try omega
theorem SS.lo {w w' : World} {g cap : Nat} {xs : List ByteArray} (h : SS w g cap xs) (hb : Below w.heap.size w w') (k : Nat) : ∀ i u, ((xs.take k).map Value.string)[i]? = some u → w'.cell? (Addr.add ⟨g, 0, none⟩ i) = some u := fun i u hu => by
  have hlt := (List.getElem?_eq_some_iff.1 hu).1
  rw [List.length_map, List.length_take] at hlt
  have := (h.below hb h.lt).cell i (by omega)
  rw [Lib.add_plain, Nat.zero_add, this, ← hu]
  simp [show i < k by omega, show i < xs.length by omega]
theorem SS.hi {w w' : World} {g cap : Nat} {xs : List ByteArray} (h : SS w g cap xs) (hb : Below w.heap.size w w') (k : Nat) : ∀ i u, ((xs.drop k).map Value.string)[i]? = some u → w'.cell? (Addr.add (hiA g cap k 1) i) = some u := fun i u hu => by
  have hlt := (List.getElem?_eq_some_iff.1 hu).1
  rw [List.length_map, List.length_drop] at hlt
  obtain ⟨_, _, hc, _⟩ := h.block
  have := (h.below hb h.lt).cell (k + i) (by omega)
  rw [hiA_at (by omega), Nat.mul_one, this, ← hu]
  simp [show k + i < xs.length by omega]
theorem one_strings (l : List ByteArray) : ∀ u ∈ l.map Value.string, u.oneCell' = true := fun u hu => by
  obtain ⟨x, _, rfl⟩ := List.mem_map.1 hu
  rfl
end Go.Proofs.YtbgamlegiikggaaGreat
