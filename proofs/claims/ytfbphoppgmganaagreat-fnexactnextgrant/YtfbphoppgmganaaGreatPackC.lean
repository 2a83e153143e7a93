/-
  Several texts of this claim in one: InsT, StdI, StdJ, StdP, StdQ, QV, QBlk, SzQ2, ToQ (pack.py put them together); each says in its own remark what is proved.
-/
import Derived.Test.YtfbphoppgmganaaGreatPackB
import Derived.Laws.AppendOwn
import Derived.Lib.ItoaMem
import Derived.Deep.RegionHeld3
import Derived.Deep.RegionWith
import Derived.BigRegion
import Derived.Maps.OwnSet
import Derived.Test.YtfbphoppgmganaaGreatPackA
import Derived.Laws.MakeOwn
/-
  One put in its place by three appends, in a region that draws: what stands along the way.
-/
namespace Go.Proofs.YtfbphoppgmganaaGreat
open Go.RowKit
set_option linter.unusedVariables false

/-- a row that is gathered, from block B on; never nil -/
def IRow (E : TypeId) (sz B : Nat) (w : World) (v : Value) (n : Nat) (xs : List Value) : Prop := w.ownsRow B E sz v n xs ∧ v ≠ .slice none 0 0
theorem irow_new {E : TypeId} {sz : Nat} {w1 w : World} (h : Below w1.heap.size w1 w) : IRow E sz w1.heap.size (w.alloc (.cells #[] E)) (.slice (some ⟨w.heap.size, 0, none⟩) 0 0) 0 [] :=
  ⟨⟨by simp, .inr ⟨w.heap.size, 0, #[], rfl, h.size, by show (w.heap.push _)[w.heap.size]? = _; simp, Nat.le_refl _, by unfold maxLen; omega, by simp, by simp⟩⟩, by simp⟩
theorem IRow.al {E : TypeId} {sz B n : Nat} {w : World} {v : Value} {xs : List Value} (h : IRow E sz B w v n xs) (o : Obj) : IRow E sz B (w.alloc o) v n xs := ⟨h.1.alloc o, h.2⟩
theorem IRow.open {E : TypeId} {sz B n : Nat} {w : World} {v : Value} {xs : List Value} (h : IRow E sz B w v n xs) : ∃ g cap, v = .slice (some ⟨g, 0, none⟩) n cap ∧ B ≤ g ∧ w.ownsRow g E sz (.slice (some ⟨g, 0, none⟩) n cap) n xs ∧ n ≤ cap := by
  obtain ⟨⟨h1, h2⟩, h3⟩ := h
  rcases h2 with ⟨e, _⟩ | ⟨g, cap, cur, rfl, hg, hb, hc, k⟩
  · exact absurd e h3
  · exact ⟨g, cap, rfl, hg, ⟨h1, .inr ⟨g, cap, cur, rfl, Nat.le_refl _, hb, hc, k⟩⟩, hc⟩
/-- what is put in its place lies in a block of its own -/
def IBox (E : TypeId) (w1 w : World) (gb : Nat) (c : Array Value) : Prop := w1.heap.size ≤ gb ∧ w.heap[gb]? = some (.cells c E (0, 0))
theorem ibox_new {E : TypeId} {w1 w : World} (h : Below w1.heap.size w1 w) (c : Array Value) : IBox E w1 (w.alloc (.cells c E)) w.heap.size c := ⟨h.size, by show (w.heap.push _)[w.heap.size]? = _; simp⟩
theorem IBox.lt {E : TypeId} {w1 w : World} {gb : Nat} {c : Array Value} (h : IBox E w1 w gb c) : gb < w.heap.size := (Array.getElem?_eq_some_iff.1 h.2).1
theorem IBox.al {E : TypeId} {w1 w : World} {gb : Nat} {c : Array Value} (h : IBox E w1 w gb c) (o : Obj) : IBox E w1 (w.alloc o) gb c := ⟨h.1, by
  have := h.lt
  show (w.heap.push o)[gb]? = _
  rw [Array.getElem?_push, if_neg (by omega)]; exact h.2⟩
theorem IBox.same {E : TypeId} {w1 w w' : World} {gb : Nat} {c : Array Value} (h : IBox E w1 w gb c) (e : w'.heap[gb]? = w.heap[gb]?) : IBox E w1 w' gb c := ⟨h.1, e.trans h.2⟩
theorem IBox.news {E : TypeId} {w1 w : World} {gb : Nat} {c : Array Value} (h : IBox E w1 w gb c) : ∀ i u, c.toList[i]? = some u → w.cell? (Addr.add ⟨gb, 0, none⟩ i) = some u := fun i u hu => by
  rw [Lib.add_plain, Nat.zero_add]
  rw [Array.getElem?_toList] at hu
  simp [World.cell?, h.2, hu]
theorem ins_app {P : Program} {w1 w : World} {ops : Array Oper} {o : Oper} {a : Act} {K : Act → World → Prop} {Q : Exit → Act → World → Prop} {Ex : Prop} (hgd : o.guard = none) (s x : Operand) (t : TypeId)
    (ho : o.op = .call { callee := .builtin .append, args := #[s, x], argTypes := #[t, t] })
    (E : TypeId) (i : TypeInfo) (z : Value) (size bytes : Nat) (ht : P.underlying t = some (.slice E)) (hi : P.info? E = some i) (hz : i.zero = some z)
    (hsize : i.size = size) (hby : i.bytes = bytes) (hzs : z.cells.size = size) (hsz : 0 < size)
    (v : Value) (n : Nat) (xs : List Value) (hs : a.eval s = v) (hr : IRow E size w1.heap.size w v n xs) (kp : Below w1.heap.size w1 w)
    (ad : Addr) (m c : Nat) (news : List Value) (hx : a.eval x = .slice (some ad) m c) (hl : news.length = m * size) (hnews : ∀ j u, news[j]? = some u → w.cell? (ad.add j) = some u) (h1 : ∀ u ∈ news, u.oneCell' = true)
    (h63 : n + m ≤ maxLen) (hbytes : (n + m) * bytes ≤ 140737488355328)
    (h : ∀ v' w', IRow E size w1.heap.size w' v' (n + m) (xs ++ news) → Below w1.heap.size w1 w' → (∀ k, k < w.heap.size → some k ≠ v.ownBlock → w'.heap[k]? = w.heap[k]?) → K (a.put o.dst v') w') :
    if Region.wanted o (yielded ops a.tmps) = true then Oper.wp P o a w K Q else Ex := by
  have hw : Region.wanted o (yielded ops a.tmps) = true := by simp [Region.wanted, hgd]
  rw [if_pos hw]
  refine wp_append_own w s x t ho w1.heap.size E i z size bytes ht hi hz hsize hby hzs hsz v n xs hs hr.1 ad m c news hx hl hnews h1 h63 hbytes kp.size ?_
  intro v' w' hown hg hn
  refine h v' w' ⟨hown, fun e => hr.2 (hn.1 e).1⟩ (kp.grown hg kp.size ?_) (fun k hk hne => hg.block k hk hne)
  intro k hk
  rcases hr.1.2 with ⟨rfl, _⟩ | ⟨g, cap, cur, rfl, hg', _⟩
  · simp [Value.ownBlock] at hk
  · simp [Value.ownBlock] at hk; omega
theorem owns_re {E : TypeId} {sz B n n' : Nat} {w : World} {v : Value} {xs xs' : List Value} (h : IRow E sz B w v n xs) (hn : n = n') (hx : xs = xs') : IRow E sz B w v n' xs' := by subst hn hx; exact h
/-- where what stands behind a place begins -/
def hiA (g cap k sz : Nat) : Addr := if cap = k then ⟨g, 0, none⟩ else ⟨g, k * sz, none⟩
theorem hiA_at {g cap k sz : Nat} (h : k < cap) (i : Nat) : (hiA g cap k sz).add i = ⟨g, k * sz + i, none⟩ := by
  rw [hiA, if_neg (by omega), Lib.add_plain]
set_option maxRecDepth 100000 in
theorem cutS_lo (g n cap k : Nat) (hk : k ≤ cap) (wx : World) : (Instr.slice 111 (.slice (some ⟨g, 0, none⟩) n cap) none (some (.int .i64 (k : Int))) none).run Tryz.prog wx = .ok (.slice (some ⟨g, 0, none⟩) k cap) wx := by
  rw [run_slice_h (P := Tryz.prog) (w := wx) 111 (some ⟨g, 0, none⟩) n cap Tryz.underlying111 .i64 (k : Int) (by omega) (by omega)]
  rw [show (sizeOf (Tryz.prog.elem 111)).run Tryz.prog wx = .ok 1 wx from by kernel_rfl]
  simp [Result.andThen, sliced, Addr.add]
set_option maxRecDepth 100000 in
theorem cutS_hi (g n cap k : Nat) (hk : k ≤ n) (wx : World) : (Instr.slice 111 (.slice (some ⟨g, 0, none⟩) n cap) (some (.int .i64 (k : Int))) none none).run Tryz.prog wx = .ok (.slice (some (hiA g cap k 1)) (n - k) (cap - k)) wx := by
  rw [run_slice_l (P := Tryz.prog) (w := wx) 111 (some ⟨g, 0, none⟩) n cap Tryz.underlying111 .i64 (k : Int) (by omega) (by omega)]
  rw [show (sizeOf (Tryz.prog.elem 111)).run Tryz.prog wx = .ok 1 wx from by kernel_rfl]
  simp only [Result.andThen, sliced, Int.toNat_natCast, hiA]
  by_cases h : cap = k
  · rw [if_pos h, if_pos h]
  · rw [if_neg h, if_neg h]
    simp [Addr.add]
    try omega
theorem SS.lo {w w' : World} {g cap : Nat} {xs : List ByteArray} (h : SS w g cap xs) (hb : Below w.heap.size w w') (k : Nat) : ∀ i u, ((xs.take k).map Value.string)[i]? = some u → w'.cell? (Addr.add ⟨g, 0, none⟩ i) = some u := fun i u hu => by
  have hlt := (List.getElem?_eq_some_iff.1 hu).1
  rw [List.length_map, List.length_take] at hlt
  have := (h.below hb h.lt).cell i (by omega)
  rw [Lib.add_plain, Nat.zero_add, this, ← hu]
  simp [show i < k by omega, show i < xs.length by omega]
theorem SS.hi {w w' : World} {g cap : Nat} {xs : List ByteArray} (h : SS w g cap xs) (hb : Below w.heap.size w w') (k : Nat) : ∀ i u, ((xs.drop k).map Value.string)[i]? = some u → w'.cell? (Addr.add (hiA g cap k 1) i) = some u := fun i u hu => by
  have hlt := (List.getElem?_eq_some_iff.1 hu).1
  rw [List.length_map, List.length_drop] at hlt
  obtain ⟨_, _, hc, _⟩ := h.block
  have := (h.below hb h.lt).cell (k + i) (by omega)
  rw [hiA_at (by omega), Nat.mul_one, this, ← hu]
  simp [show k + i < xs.length by omega]
theorem one_strings (l : List ByteArray) : ∀ u ∈ l.map Value.string, u.oneCell' = true := fun u hu => by
  obtain ⟨x, _, rfl⟩ := List.mem_map.1 hu
  rfl
end Go.Proofs.YtfbphoppgmganaaGreat

/-
  The heap of leaves: what its methods do; walks over the dump.
-/
namespace Go.Proofs.YtfbphoppgmganaaGreat
open Go.RowKit Go.Maps
set_option linter.unusedVariables false
set_option linter.unusedSimpArgs false

def seD : SE := ([], 0, 0, 0, 0)
/-- a row of another type that the heap leaves alone -/
abbrev Fr3 := Nat × Array Value × TypeId
def FrB (bm g : Nat) (F : Fr3) (w : World) : Prop := Blk w F.1 F.2.1 F.2.2 ∧ F.1 ≠ bm ∧ F.1 ≠ g
/-- the heap of these leaves stands at block g; nothing of w0 has turned -/
def HSt (K : List P4) (F : List Fr3) (w0 : World) (bm bk g : Nat) (w : World) (l : List SE) : Prop :=
  (∃ v, Blk w g #[v, cloV bk] 276 ∧ w.ownsRow (g + 1) 279 5 v l.length (stcs l) ∧ (∀ f ∈ F, some f.1 ≠ v.ownBlock)) ∧ Blk w bk #[.map (some bm)] 325 ∧ HoldsK K bm w ∧ (bm < bk ∧ bk < g ∧ w0.heap.size ≤ bm) ∧ (∀ x ∈ l, x.2 ∈ K) ∧ Below w0.heap.size w0 w ∧ ∀ f ∈ F, FrB bm g f w
theorem HSt.call {K : List P4} {F : List Fr3} {w0 w w' : World} {bm bk g : Nat} {l : List SE} (h : HSt K F w0 bm bk g w l) (hh : HoldsK K bm w') (hg : w.grownBy w' (some bm)) : HSt K F w0 bm bk g w' l := by
  obtain ⟨⟨v, h1, h2, hF⟩, h3, h4, h5, h6, h7, h8⟩ := h
  refine ⟨⟨v, h1.gby1 hg (by omega), h2.kept hg ?_, hF⟩, h3.gby1 hg (by omega), hh, h5, h6, below_grownBy h7 hg h7.size h5.2.2, fun f hf => ⟨(h8 f hf).1.gby1 hg (h8 f hf).2.1, (h8 f hf).2⟩⟩
  right
  intro e
  have := (h2.lt bm e).1
  omega
theorem HSt.below {K : List P4} {F : List Fr3} {w0 w w' : World} {bm bk g : Nat} {l : List SE} (h : HSt K F w0 bm bk g w l) (hb : Below w.heap.size w w') : HSt K F w0 bm bk g w' l := h.call (h.2.2.1.below hb) (grownBy_below (grownBy_refl _ _) hb)
theorem HSt.obj {K : List P4} {F : List Fr3} {w0 w : World} {bm bk g : Nat} {l : List SE} (h : HSt K F w0 bm bk g w l) {x y : Value} (hb : w.heap[g]? = some (.cells #[x, y] 276 (0, 0))) : y = cloV bk ∧ w.ownsRow (g + 1) 279 5 x l.length (stcs l) ∧ ∀ f ∈ F, some f.1 ≠ x.ownBlock := by
  obtain ⟨⟨v, h1, h2, hF⟩, _⟩ := h
  have := h1.symm.trans hb
  simp at this
  obtain ⟨rfl, e⟩ := this
  exact ⟨e.symm, h2, hF⟩
theorem own_open {w : World} {B n : Nat} {v : Value} {l : List SE} (h : w.ownsRow B 279 5 v l.length (stcs l)) (hl : 0 < l.length) : ∃ b cap, v = .slice (some ⟨b, 0, none⟩) l.length cap ∧ B ≤ b ∧ l.length ≤ cap := by
  rcases h.2 with ⟨_, e⟩ | ⟨b, cap, cur, e, hb, _, hc, _⟩
  · omega
  · exact ⟨b, cap, e, hb, hc⟩
theorem own_len {w : World} {B : Nat} {v : Value} {l : List SE} (h : w.ownsRow B 279 5 v l.length (stcs l)) : ∃ ao cap, v = .slice ao l.length cap := by
  rcases h.2 with ⟨e, e2⟩ | ⟨b, cap, cur, e, _⟩
  · exact ⟨none, 0, by rw [e, e2]⟩
  · exact ⟨_, _, e⟩
theorem own_elt {w : World} {B b cap : Nat} {l : List SE} (h : w.ownsRow B 279 5 (.slice (some ⟨b, 0, none⟩) l.length cap) l.length (stcs l)) {i : Nat} (hi : i < l.length) :
    w.cell? ⟨b, i * 5, none⟩ = some (.string (bs (HeapM.at' seD l i).1)) ∧ w.cell? ⟨b, i * 5 + 1, none⟩ = some (.int .i64 (HeapM.at' seD l i).2.1) ∧ w.cell? ⟨b, i * 5 + 2, none⟩ = some (.int .i64 (HeapM.at' seD l i).2.2.1) ∧ w.cell? ⟨b, i * 5 + 3, none⟩ = some (.int .i64 (HeapM.at' seD l i).2.2.2.1) ∧ w.cell? ⟨b, i * 5 + 4, none⟩ = some (.int .i64 (HeapM.at' seD l i).2.2.2.2) := by
  have e : HeapM.at' seD l i = l[i] := by simp [HeapM.at', List.getD, hi]
  rw [e]
  obtain ⟨a0, a1, a2, a3, a4⟩ := stcs_at l i hi
  exact ⟨(h.cellAt _ (by omega)).trans a0, (h.cellAt _ (by omega)).trans a1, (h.cellAt _ (by omega)).trans a2, (h.cellAt _ (by omega)).trans a3, (h.cellAt _ (by omega)).trans a4⟩
theorem at_mem {K : List P4} {l : List SE} (h : ∀ x ∈ l, x.2 ∈ K) {i : Nat} (hi : i < l.length) : (HeapM.at' seD l i).2 ∈ K := by
  have e : HeapM.at' seD l i = l[i] := by simp [HeapM.at', List.getD, hi]
  rw [e]; exact h _ (List.getElem_mem _)

set_option maxRecDepth 100000 in
set_option maxHeartbeats 2000000 in
theorem stLen_any (K : List P4) (F : List Fr3) (w0 : World) (bm bk g : Nat) (w : World) (l : List SE) (x y : Value) (h : HSt K F w0 bm bk g w l) (hb : w.heap[g]? = some (.cells #[x, y] 276 (0, 0))) :
    Calls Tryz.prog 233 #[.agg #[x, y]] w fun e w' => e = .returned (.int .i64 (l.length : Int)) ∧ HSt K F w0 bm bk g w' l := by
  obtain ⟨rfl, hown, _⟩ := h.obj hb
  obtain ⟨ao, cap, rfl⟩ := own_len hown
  have HH := hide (h.below (below_al (Below.refl _ w) (.cells #[.slice ao l.length cap, cloV bk] 276)))
  clear h hb hown
  go_enter Tryz.func233, Tryz.ntmps233
  go_wp2
  go_ret
  exact ⟨rfl, unhide HH⟩

/-- the heap stands, and a copy of its two words in a box -/
def HBx (K : List P4) (F : List Fr3) (w0 : World) (bm bk g k b cap : Nat) (l : List SE) (wx : World) : Prop := HSt K F w0 bm bk g wx l ∧ Blk wx k #[.slice (some ⟨b, 0, none⟩) l.length cap, cloV bk] 276 ∧ wx.ownsRow (g + 1) 279 5 (.slice (some ⟨b, 0, none⟩) l.length cap) l.length (stcs l) ∧ k ≠ bm
theorem HBx.call {K : List P4} {F : List Fr3} {w0 wx wy : World} {bm bk g k b cap : Nat} {l : List SE} (h : HBx K F w0 bm bk g k b cap l wx) (hh : HoldsK K bm wy) (hg : wx.grownBy wy (some bm)) : HBx K F w0 bm bk g k b cap l wy := by
  obtain ⟨h1, h2, h3, h4⟩ := h
  have h5 := h1.2.2.2.1
  refine ⟨h1.call hh hg, h2.gby1 hg h4, h3.kept hg (.inr (fun e => ?_)), h4⟩
  have := (h3.lt bm e).1
  omega
theorem HBx.drew {K : List P4} {F : List Fr3} {w0 wx : World} {bm bk g k b cap : Nat} {l : List SE} (h : HBx K F w0 bm bk g k b cap l wx) : HBx K F w0 bm bk g k b cap l wx.drew := h.call (h.1.2.2.1.below (Below.refl _ _).drew) (grownBy_below (grownBy_refl _ _) (Below.refl _ _).drew)

set_option maxRecDepth 100000 in
set_option maxHeartbeats 4000000 in
theorem stLess_any (K : List P4) (F : List Fr3) (hK : K.length ≤ 1000000000) (KW : ∀ p ∈ K, Wf4 p.1 p.2.1 p.2.2.1 p.2.2.2) (w0 : World) (bm bk g : Nat) (w : World) (l : List SE) (x y : Value) (i j : Nat) (h : HSt K F w0 bm bk g w l) (hb : w.heap[g]? = some (.cells #[x, y] 276 (0, 0))) (hi : i < l.length) (hj : j < l.length) (hl : l.length ≤ 1000000) :
    Calls Tryz.prog 384 #[.agg #[x, y], .int .i64 (i : Int), .int .i64 (j : Int)] w fun e w' => e = .returned (.bool (aheadS (HeapM.at' seD l i) (HeapM.at' seD l j))) ∧ HSt K F w0 bm bk g w' l := by
  obtain ⟨rfl, hown, _⟩ := h.obj hb
  obtain ⟨b, cap, rfl, hbb, hcap⟩ := own_open (n := 0) hown (by omega)
  have hx := at_mem h.2.2.2.2.1 hi
  have hy := at_mem h.2.2.2.2.1 hj
  obtain ⟨a0, a1, a2, a3, a4⟩ := own_elt hown hi
  obtain ⟨d0, d1, d2, d3, d4⟩ := own_elt hown hj
  obtain ⟨⟨n1, p1, p2, p3, p4⟩, hs1⟩ : ∃ s, HeapM.at' seD l i = s := ⟨_, rfl⟩
  obtain ⟨⟨n2, q1, q2, q3, q4⟩, hs2⟩ : ∃ s, HeapM.at' seD l j = s := ⟨_, rfl⟩
  rw [hs1] at a0 a1 a2 a3 a4 hx ⊢
  rw [hs2] at d0 d1 d2 d3 d4 hy ⊢
  simp only at a0 a1 a2 a3 a4 d0 d1 d2 d3 d4
  have hb0 := below_al (Below.refl _ w) (.cells #[.slice (some ⟨b, 0, none⟩) l.length cap, cloV bk] 276)
  have S1 := hide (show HBx K F w0 bm bk g w.heap.size b cap l (w.alloc (.cells #[.slice (some ⟨b, 0, none⟩) l.length cap, cloV bk] 276)) from ⟨h.below hb0, blk_new _ _ _, hown.alloc _, by have := h.2.2.1.lt; omega⟩)
  have C := hide (fun wx (hc : HSt K F w0 bm bk g wx l) => leastFn_any K hK KW (n1, p1, p2, p3, p4) (n2, q1, q2, q3, q4) hx hy bm bk wx hc.2.1 hc.2.2.1 (by have := hc.2.2.2.1; omega))
  have R : ∀ wx, HBx K F w0 bm bk g w.heap.size b cap l wx → wx.cell? ⟨w.heap.size, 0, none⟩ = some (.slice (some ⟨b, 0, none⟩) l.length cap) ∧ wx.cell? ⟨w.heap.size, 1, none⟩ = some (cloV bk) ∧ wx.cell? ⟨b, i * 5, none⟩ = some (.string (bs n1)) ∧ wx.cell? ⟨b, i * 5 + 1, none⟩ = some (.int .i64 p1) ∧ wx.cell? ⟨b, i * 5 + 2, none⟩ = some (.int .i64 p2) ∧ wx.cell? ⟨b, i * 5 + 3, none⟩ = some (.int .i64 p3) ∧ wx.cell? ⟨b, i * 5 + 4, none⟩ = some (.int .i64 p4) ∧ wx.cell? ⟨b, j * 5, none⟩ = some (.string (bs n2)) ∧ wx.cell? ⟨b, j * 5 + 1, none⟩ = some (.int .i64 q1) ∧ wx.cell? ⟨b, j * 5 + 2, none⟩ = some (.int .i64 q2) ∧ wx.cell? ⟨b, j * 5 + 3, none⟩ = some (.int .i64 q3) ∧ wx.cell? ⟨b, j * 5 + 4, none⟩ = some (.int .i64 q4) := fun wx k => by
    obtain ⟨e0, e1, e2, e3, e4⟩ := own_elt k.2.2.1 hi
    obtain ⟨f0, f1, f2, f3, f4⟩ := own_elt k.2.2.1 hj
    rw [hs1] at e0 e1 e2 e3 e4
    rw [hs2] at f0 f1 f2 f3 f4
    exact ⟨by have := k.2.1.at 0; simpa using this, by have := k.2.1.at 1; simpa using this, e0, e1, e2, e3, e4, f0, f1, f2, f3, f4⟩
  have hij : (i : Int) < l.length := by omega
  have hjj : (j : Int) < l.length := by omega
  clear h hb hown hx hy a0 a1 a2 a3 a4 d0 d1 d2 d3 d4 hs1 hs2 hb0
  go_enter Tryz.func384, Tryz.ntmps384
  go_wp2_with fail
  go_region_held3 (fun wx => HBx K F w0 bm bk g w.heap.size b cap l wx)
    (first | (with_reducible assumption) | exact (unhide S1) | exact (unhide S1).drew | exact HBx.drew (by assumption))
    (first
    | (go_at_call 288; refine (unhide C _ ?_).mono ?_; (exact (show HBx K F w0 bm bk g w.heap.size b cap l _ by assumption).1); rintro e wt ⟨rfl, hh, hg⟩; have SA := HBx.call (K := K) (F := F) (w0 := w0) (bm := bm) (bk := bk) (g := g) (k := w.heap.size) (b := b) (cap := cap) (l := l) (by assumption) hh hg))
  all_goals
    have HE := hide SA.1
    go_wp2
    go_ret
    exact ⟨rfl, unhide HE⟩
end Go.Proofs.YtfbphoppgmganaaGreat

/-
  The heap of leaves: two change their places; walks over the dump.
-/
namespace Go.Proofs.YtfbphoppgmganaaGreat
open Go.RowKit Go.Maps
set_option linter.unusedVariables false
set_option linter.unusedSimpArgs false

theorem own_any {w : World} {B b cap : Nat} {l : List SE} (h : w.ownsRow B 279 5 (.slice (some ⟨b, 0, none⟩) l.length cap) l.length (stcs l)) {i : Nat} (hi : i < l.length) {r : Nat} (hr : r < 5) : ∃ v, w.cell? ⟨b, i * 5 + r, none⟩ = some v := by
  have := h.cellAt (i * 5 + r) (by omega)
  rw [this]
  exact ⟨_, List.getElem?_eq_getElem (by rw [stcs_len]; omega)⟩
theorem own_cell {w : World} {B b cap n sz j : Nat} {e : TypeId} {xs : List Value} (h : w.ownsRow B e sz (.slice (some ⟨b, 0, none⟩) n cap) n xs) (hj : j < n * sz) : ∃ u, w.cell? ⟨b, j, none⟩ = some u := by
  have := h.cellAt j hj
  rw [this]
  exact ⟨_, List.getElem?_eq_getElem (by rw [h.1]; exact hj)⟩
theorem HSt.swapped {K : List P4} {F : List Fr3} {w0 w : World} {bm bk g b cap i j : Nat} {l : List SE} (h : HSt K F w0 bm bk g w l) (hb : Blk w g #[.slice (some ⟨b, 0, none⟩) l.length cap, cloV bk] 276) (hi : i < l.length) (hj : j < l.length) :
    HSt K F w0 bm bk g (stW (stW w b i (HeapM.at' seD l j)) b j (HeapM.at' seD l i)) (HeapM.swapL seD l i j) := by
  obtain ⟨_, hown, hFx⟩ := h.obj hb
  obtain ⟨b', cap', e, hbb, _⟩ := own_open (n := 0) hown (by omega)
  cases e
  obtain ⟨_, h3, h4, h5, h6, h7, h8⟩ := h
  have hFb : ∀ f ∈ F, f.1 ≠ b := fun f hf e => hFx f hf (by rw [e]; rfl)
  have hn : ∀ (P : World → Prop), (∀ wx p v, P wx → P (wx.setCell ⟨b, p, none⟩ v)) → ∀ wx k x, P wx → P (stW wx b k x) := fun P hp wx k x hx => hp _ _ _ (hp _ _ _ (hp _ _ _ (hp _ _ _ (hp _ _ _ hx))))
  have o1 := own_stset hown hi (HeapM.at' seD l j)
  have hl1 : (l.set i (HeapM.at' seD l j)).length = l.length := by simp
  have o2 := own_stset (l := l.set i (HeapM.at' seD l j)) (by rw [hl1]; exact o1) (by rw [hl1]; exact hj) (HeapM.at' seD l i)
  rw [hl1] at o2
  refine ⟨⟨.slice (some ⟨b, 0, none⟩) l.length cap, ?_, ?_, hFx⟩, ?_, ?_, h5, ?_, ?_, fun f hf => ⟨?_, (h8 f hf).2⟩⟩
  · exact hn (fun wx => Blk wx g _ _) (fun wx p v hx => hx.other b p v (by omega)) _ _ _ (hn (fun wx => Blk wx g _ _) (fun wx p v hx => hx.other b p v (by omega)) _ _ _ hb)
  · rw [HeapM.swap_len]
    exact o2
  · exact hn (fun wx => Blk wx bk _ _) (fun wx p v hx => hx.other b p v (by omega)) _ _ _ (hn (fun wx => Blk wx bk _ _) (fun wx p v hx => hx.other b p v (by omega)) _ _ _ h3)
  · have hk : ∀ wx p v, HoldsK K bm wx → HoldsK K bm (wx.setCell ⟨b, p, none⟩ v) := fun wx p v hx => hx.grown (grownBy_set (grownBy_refl wx (some b)) p v) (by simp; omega)
    exact hn (HoldsK K bm) hk _ _ _ (hn (HoldsK K bm) hk _ _ _ h4)
  · intro x hx
    have := (HeapM.swap_perm seD l i j hi hj).subset hx
    exact h6 x this
  · exact hn (fun wx => Below w0.heap.size w0 wx) (fun wx p v hx => below_sc hx _ _ _ (by omega)) _ _ _ (hn (fun wx => Below w0.heap.size w0 wx) (fun wx p v hx => below_sc hx _ _ _ (by omega)) _ _ _ h7)
  · exact hn (fun wx => Blk wx f.1 _ _) (fun wx p v hx => hx.other b p v (hFb f hf)) _ _ _ (hn (fun wx => Blk wx f.1 _ _) (fun wx p v hx => hx.other b p v (hFb f hf)) _ _ _ (h8 f hf).1)

set_option maxRecDepth 100000 in
set_option maxHeartbeats 4000000 in
theorem stSwap_any (K : List P4) (F : List Fr3) (w0 : World) (bm bk g : Nat) (w : World) (l : List SE) (x y : Value) (i j : Nat) (h : HSt K F w0 bm bk g w l) (hb : w.heap[g]? = some (.cells #[x, y] 276 (0, 0))) (hi : i < l.length) (hj : j < l.length) (hl : l.length ≤ 1000000) :
    Calls Tryz.prog 387 #[.agg #[x, y], .int .i64 (i : Int), .int .i64 (j : Int)] w fun e w' => e = .returned (.tuple #[]) ∧ HSt K F w0 bm bk g w' (HeapM.swapL seD l i j) := by
  obtain ⟨rfl, hown, _⟩ := h.obj hb
  obtain ⟨b, cap, rfl, hbb, hcap⟩ := own_open (n := 0) hown (by omega)
  have hb0 := below_al (Below.refl _ w) (.cells #[.slice (some ⟨b, 0, none⟩) l.length cap, cloV bk] 276)
  have hb1 := hb0.drew
  have B0 := blk_new w #[.slice (some ⟨b, 0, none⟩) l.length cap, cloV bk] 276
  have hown0 := hown.alloc (.cells #[.slice (some ⟨b, 0, none⟩) l.length cap, cloV bk] 276)
  have HH := hide (((h.below hb0).swapped (Blk.below (show Blk w g _ _ from hb) hb0) hi hj).below (Below.refl _ _).drew)
  obtain ⟨a0, a1, a2, a3, a4⟩ := own_elt hown0 hi
  obtain ⟨d0, d1, d2, d3, d4⟩ := own_elt hown0 hj
  have fz := fun r => hown0.frozenAt r
  obtain ⟨⟨n1, p1, p2, p3, p4⟩, hs1⟩ : ∃ s, HeapM.at' seD l i = s := ⟨_, rfl⟩
  obtain ⟨⟨n2, q1, q2, q3, q4⟩, hs2⟩ : ∃ s, HeapM.at' seD l j = s := ⟨_, rfl⟩
  rw [hs1] at a0 a1 a2 a3 a4 HH
  rw [hs2] at d0 d1 d2 d3 d4 HH
  simp only [stW] at a0 a1 a2 a3 a4 d0 d1 d2 d3 d4 HH
  have h1 := own_set hown0 (j := i * 5) (by omega) (.string (bs n2))
  have h2 := own_set h1 (j := i * 5 + 1) (by omega) (.int .i64 q1)
  have h3 := own_set h2 (j := i * 5 + 2) (by omega) (.int .i64 q2)
  have h4 := own_set h3 (j := i * 5 + 3) (by omega) (.int .i64 q3)
  have h5 := own_set h4 (j := i * 5 + 4) (by omega) (.int .i64 q4)
  obtain ⟨u0, m0⟩ := own_cell h1 (j := j * 5) (by omega)
  obtain ⟨u1, m1⟩ := own_cell h2 (j := j * 5 + 1) (by omega)
  obtain ⟨u2, m2⟩ := own_cell h3 (j := j * 5 + 2) (by omega)
  obtain ⟨u3, m3⟩ := own_cell h4 (j := j * 5 + 3) (by omega)
  obtain ⟨u4, m4⟩ := own_cell h5 (j := j * 5 + 4) (by omega)
  have c0 := B0.at 0
  simp at c0
  have hblt := (hown.lt b rfl).2
  have hbn : ¬ b = w.heap.size := by omega
  have hbn2 : ¬ w.heap.size = b := by omega
  have hij : (i : Int) < l.length := by omega
  have hjj : (j : Int) < l.length := by omega
  have f0 := fz (i * 5); have f1 := fz (i * 5 + 1); have f2 := fz (i * 5 + 2); have f3 := fz (i * 5 + 3); have f4 := fz (i * 5 + 4)
  have g0 := fz (j * 5); have g1 := fz (j * 5 + 1); have g2 := fz (j * 5 + 2); have g3 := fz (j * 5 + 3); have g4 := fz (j * 5 + 4)
  clear hblt h hb hown hown0 hs1 hs2 hb0 hb1 B0 fz h1 h2 h3 h4 h5
  go_enter Tryz.func387, Tryz.ntmps387
  go_wp2_with fail
  go_region
  all_goals
    go_wp2
    go_end0
    exact ⟨rfl, unhide HH⟩
end Go.Proofs.YtfbphoppgmganaaGreat

/-
  The heap of leaves: one more, and the last one taken off; walks over the dump.
-/
namespace Go.Proofs.YtfbphoppgmganaaGreat
open Go.RowKit Go.Maps
set_option linter.unusedVariables false
set_option linter.unusedSimpArgs false

theorem HSt.pushed {K : List P4} {F : List Fr3} {w0 w : World} {bm bk g : Nat} {l : List SE} {v : Value} {z : SE} (h : HSt K F w0 bm bk g w l) (hF : ∀ f ∈ F, f.2.2 ≠ 279) (hz : z.2 ∈ K) {v' : Value} {w1 w2 : World} (hb : Below w.heap.size w w1) (hown : w1.ownsRow (g + 1) 279 5 v l.length (stcs l))
    (ho : w2.ownsRow (g + 1) 279 5 v' (l.length + 1) (stcs l ++ stc z)) (hg : w1.grownBy w2 v.ownBlock) : HSt K F w0 bm bk g (w2.setCell ⟨g, 0, none⟩ v') (l ++ [z]) := by
  have hlow : ∀ k, k ≤ g → k < w1.heap.size → w2.heap[k]? = w1.heap[k]? := fun k hk hlt => hg.block k hlt (fun e => by
    have := (hown.lt k e.symm).1
    omega)
  obtain ⟨⟨v0, b1, _, _⟩, h3, h4, h5, h6, h7, h8⟩ := h
  have hFv : ∀ f ∈ F, ∀ k, v.ownBlock = some k → f.1 ≠ k := fun f hf k hk e => by
    rcases hown.2 with ⟨e2, _⟩ | ⟨b2, _, cur, e2, _, hc, _⟩
    · rw [e2] at hk; simp [Value.ownBlock] at hk
    · rw [e2] at hk
      simp [Value.ownBlock] at hk
      have := (h8 f hf).1.below hb
      unfold Blk at this
      rw [e, ← hk, hc] at this
      simp at this
      exact hF f hf this.2.symm
  have fr2 : ∀ f ∈ F, Blk w2 f.1 f.2.1 f.2.2 := fun f hf => (hg.block f.1 ((h8 f hf).1.below hb).lt (fun e => hFv f hf f.1 e.symm rfl)).trans ((h8 f hf).1.below hb)
  have b2 : Blk w1 g _ _ := b1.below hb
  have b3 : Blk w2 g _ _ := (hlow g (Nat.le_refl _) b2.lt).trans b2
  have c3 : Blk w2 bk _ _ := (hlow bk (by omega) (h3.below hb).lt).trans (h3.below hb)
  have k2 : HoldsK K bm w2 := (h4.below hb).grown hg (fun e => by have := (hown.lt bm e.symm).1; omega)
  have hFn : ∀ f ∈ F, some f.1 ≠ v'.ownBlock := fun f hf e => by
    rcases ho.2 with ⟨e2, _⟩ | ⟨b2, _, cur, e2, _, hc, _⟩
    · rw [e2] at e; simp [Value.ownBlock] at e
    · rw [e2] at e
      simp [Value.ownBlock] at e
      have := fr2 f hf
      unfold Blk at this
      rw [e, hc] at this
      simp at this
      exact hF f hf this.2.symm
  have hlen : (l ++ [z]).length = l.length + 1 := by simp
  refine ⟨⟨v', ?_, ?_, hFn⟩, c3.other g 0 v' (by omega), k2.grown (grownBy_set (grownBy_refl w2 (some g)) 0 v') (by simp; omega), h5, ?_, ?_, fun f hf => ⟨(fr2 f hf).other g 0 v' (h8 f hf).2.2, (h8 f hf).2⟩⟩
  · have := b3.set 0 v'
    simpa using this
  · rw [hlen, stcs_app]
    have e : stcs [z] = stc z := by simp [stcs]
    rw [e]
    exact ho.kept (grownBy_set (grownBy_refl w2 (some g)) 0 v') (.inr (fun e => by have := (ho.lt g e).1; omega))
  · intro x hx
    rcases List.mem_append.1 hx with hx | hx
    · exact h6 x hx
    · simp at hx; subst hx; exact hz
  · have h8 : Below w0.heap.size w0 w1 := below_on h7 hb
    have h9 : Below w0.heap.size w0 w2 := h8.grown hg h8.size (fun k e => by have := (hown.lt k e).1; omega)
    exact below_sc h9 _ _ _ (by omega)

set_option maxRecDepth 100000 in
theorem assertS (x : SE) (xt : TypeId) (wx : World) : (Instr.typeAssert (.iface 279 (stv x)) xt 279 false).run Tryz.prog wx = .ok (stv x) wx := by
  simp [Instr.typeAssert, go_sem]
theorem Tryz.infoStd : (Tryz.prog.info? 279).map (fun i => (i.zero, i.size, i.bytes)) = some (some (.agg #[.string ByteArray.empty, .int .i64 0, .int .i64 0, .int .i64 0, .int .i64 0]), 5, 48) := by kernel_rfl
set_option maxRecDepth 100000 in
set_option maxHeartbeats 4000000 in
theorem stPush_any (K : List P4) (F : List Fr3) (w0 : World) (bm bk g : Nat) (w : World) (l : List SE) (z : SE) (h : HSt K F w0 bm bk g w l) (hF : ∀ f ∈ F, f.2.2 ≠ 279) (hz : z.2 ∈ K) (hl : l.length < 1000000) :
    Calls Tryz.prog 386 #[.pointer (some ⟨g, 0, none⟩), .iface 279 (stv z)] w fun e w' => e = .returned (.tuple #[]) ∧ HSt K F w0 bm bk g w' (l ++ [z]) := by
  obtain ⟨i0, hi, hz0, hz1, hz2⟩ := info_parts Tryz.infoStd
  obtain ⟨v, b1, hown, _⟩ := h.1
  have hb1 := (below_al (Below.refl _ w) (.cells #[.string (bs z.1), .int .i64 z.2.1, .int .i64 z.2.2.1, .int .i64 z.2.2.2.1, .int .i64 z.2.2.2.2] 279)).drew
  obtain ⟨W, hW⟩ : ∃ W, (w.alloc (.cells #[.string (bs z.1), .int .i64 z.2.1, .int .i64 z.2.2.1, .int .i64 z.2.2.2.1, .int .i64 z.2.2.2.2] 279)).drew = W := ⟨_, rfl⟩
  rw [hW] at hb1
  have hbk : Blk W w.heap.size #[.string (bs z.1), .int .i64 z.2.1, .int .i64 z.2.2.1, .int .i64 z.2.2.2.1, .int .i64 z.2.2.2.2] 279 := by rw [← hW]; exact blk_new _ _ _
  have hownW : W.ownsRow (g + 1) 279 5 v l.length (stcs l) := hown.kept (grownBy_below (grownBy_refl w none) hb1) (by by_cases e : v.ownBlock = none; exact .inl e; exact .inr e)
  have hnews : ∀ j u, (stc z)[j]? = some u → W.cell? (Addr.add ⟨w.heap.size, 0, none⟩ j) = some u := fun j u hu => by
    rw [Lib.add_plain, Nat.zero_add, hbk.at j]
    simp only [stc] at hu
    simpa using hu
  obtain ⟨v', w2, hrun, hown', hgrow, _⟩ := run_append_own (P := Tryz.prog) W (g + 1) 274 274 279 i0 (.agg #[.string ByteArray.empty, .int .i64 0, .int .i64 0, .int .i64 0, .int .i64 0]) 5 48 Tryz.underlying274 hi hz0 hz1 hz2 rfl (by decide) v l.length (stcs l) hownW ⟨w.heap.size, 0, none⟩ 1 1 (stc z) (by simp [stc]) hnews (fun u hu => by simp [stc] at hu; rcases hu with rfl | rfl | rfl | rfl | rfl <;> rfl) (by unfold maxLen; omega) (by omega) (by have := b1.lt; have := hb1.size; omega)
  obtain ⟨b9, cap9, rfl⟩ : ∃ b9 cap9, v' = .slice (some ⟨b9, 0, none⟩) (l.length + 1) cap9 := by
    rcases hown'.2 with ⟨_, e⟩ | ⟨b9, cap9, _, e, _⟩
    · omega
    · exact ⟨b9, cap9, e⟩
  have HH := hide (h.pushed hF hz hb1 hownW hown' hgrow)
  have hlow : w2.heap[g]? = W.heap[g]? := hgrow.block g (b1.below hb1).lt (fun e => by have := (hownW.lt g e.symm).1; omega)
  have b3 : Blk w2 g _ _ := hlow.trans (b1.below hb1)
  have c0 := b1.at 0
  simp at c0
  have c1 := (b1.al (.cells #[.string (bs z.1), .int .i64 z.2.1, .int .i64 z.2.2.1, .int .i64 z.2.2.2.1, .int .i64 z.2.2.2.2] 279)).at 0
  simp at c1
  have c2 := b3.at 0
  simp at c2
  have f2 := b3.f 0
  have HV := hide hown.2
  have hwg : ¬ w.heap.size = g := by have := b1.lt; omega
  have hgw : ¬ g = w.heap.size := by omega
  rw [← hW] at hrun
  clear hown hownW hown' hgrow hnews hbk hb1 hW hlow b3 h b1
  obtain ⟨n1, p1, p2, p3, p4⟩ := z
  simp only at hrun c1
  have hta := assertS (n1, p1, p2, p3, p4)
  rcases unhide HV with ⟨rfl, hl0⟩ | ⟨b, cap, cur, rfl, _, _, hcap, _⟩
  all_goals
    clear HV
    simp [go_sem] at hrun
    go_enter Tryz.func386, Tryz.ntmps386
    go_wp2_with fail
    go_region
    all_goals
      go_wp2
      go_end0
      first
      | exact ⟨rfl, unhide HH⟩
      | (have hx := unhide HH; rw [hl0] at hx; exact ⟨rfl, hx⟩)

theorem HSt.popped {K : List P4} {F : List Fr3} {w0 w : World} {bm bk g b cap : Nat} {l : List SE} (h : HSt K F w0 bm bk g w l) (hb : Blk w g #[.slice (some ⟨b, 0, none⟩) l.length cap, cloV bk] 276) {n : Nat} (hn : n ≤ l.length) :
    HSt K F w0 bm bk g (w.setCell ⟨g, 0, none⟩ (.slice (some ⟨b, 0, none⟩) n cap)) (l.take n) := by
  obtain ⟨_, hown, hFx⟩ := h.obj hb
  obtain ⟨_, h3, h4, h5, h6, h7, h8⟩ := h
  have hlen : (l.take n).length = n := by simp; omega
  refine ⟨⟨.slice (some ⟨b, 0, none⟩) n cap, ?_, ?_, hFx⟩, h3.other g 0 _ (by omega), h4.grown (grownBy_set (grownBy_refl w (some g)) 0 _) (by simp; omega), h5, fun x hx => h6 x (List.mem_of_mem_take hx), below_sc h7 _ _ _ (by omega), fun f hf => ⟨(h8 f hf).1.other g 0 _ (h8 f hf).2.2, (h8 f hf).2⟩⟩
  · have := hb.set 0 (.slice (some ⟨b, 0, none⟩) n cap)
    simpa using this
  · rw [hlen, stcs_take]
    obtain ⟨o1, o2⟩ := hown
    refine ⟨by rw [List.length_take, stcs_len]; omega, ?_⟩
    rcases o2 with ⟨e, _⟩ | ⟨g', cap', cur, e, hb', hc, k1, k2, k3, k4⟩
    · cases e
    · cases e
      refine .inr ⟨b, cap, cur, rfl, hb', ?_, by omega, k2, k3, ?_⟩
      · rw [heap_setCell_other _ ⟨g, 0, none⟩ b _ (by simp; omega)]; exact hc
      · rw [← k4, List.take_take, Nat.min_eq_left (by omega)]
set_option maxRecDepth 100000 in
theorem cutSt (g n cap k : Nat) (hk : k ≤ cap) (wx : World) : (Instr.slice 274 (.slice (some ⟨g, 0, none⟩) n cap) none (some (.int .i64 (k : Int))) none).run Tryz.prog wx = .ok (.slice (some ⟨g, 0, none⟩) k cap) wx := by
  rw [run_slice_h (P := Tryz.prog) (w := wx) 274 (some ⟨g, 0, none⟩) n cap Tryz.underlying274 .i64 (k : Int) (by omega) (by omega)]
  rw [show (sizeOf (Tryz.prog.elem 274)).run Tryz.prog wx = .ok 5 wx from by kernel_rfl]
  simp [Result.andThen, sliced, Addr.add]
set_option maxRecDepth 100000 in
set_option maxHeartbeats 4000000 in
theorem stPop_any (K : List P4) (F : List Fr3) (w0 : World) (bm bk g : Nat) (w : World) (l : List SE) (h : HSt K F w0 bm bk g w l) (h0 : 0 < l.length) (hl : l.length ≤ 1000000) :
    Calls Tryz.prog 385 #[.pointer (some ⟨g, 0, none⟩)] w fun e w' => e = .returned (.iface 279 (stv (HeapM.at' seD l (l.length - 1)))) ∧ HSt K F w0 bm bk g w' (l.take (l.length - 1)) := by
  obtain ⟨v, b1, hown, _⟩ := h.1
  obtain ⟨b, cap, rfl, hbb, hcap⟩ := own_open (n := 0) hown h0
  obtain ⟨m, hm⟩ : ∃ m, l.length - 1 = m := ⟨_, rfl⟩
  have hml : m < l.length := by omega
  obtain ⟨a0, a1, a2, a3, a4⟩ := own_elt hown hml
  rw [hm]
  obtain ⟨⟨n1, p1, p2, p3, p4⟩, hs1⟩ : ∃ s, HeapM.at' seD l m = s := ⟨_, rfl⟩
  rw [hs1] at a0 a1 a2 a3 a4 ⊢
  simp only at a0 a1 a2 a3 a4
  have hlm : (l.length : Int) - 1 = (m : Int) := by omega
  have hwr : IntKind.i64.wrap ((l.length : Int) - 1) = (m : Int) := by rw [IntKind.wrap_i64]; omega
  have hcut := cutSt b l.length cap m (by omega)
  have hb1 := below_al (Below.refl _ w) (.cells #[.string (bs n1), .int .i64 p1, .int .i64 p2, .int .i64 p3, .int .i64 p4] 279)
  have HH := hide ((h.below hb1).popped (b1.below hb1) (n := m) (by omega))
  have c0 := b1.at 0
  simp at c0
  have c1 := (b1.below hb1).at 0
  simp at c1
  have f1 := (b1.below hb1).f 0
  have hne : ¬ w.heap.size = g := by have := b1.lt; omega
  have hne2 : ¬ g = w.heap.size := by omega
  have hmi : (m : Int) < (l.length : Int) := by omega
  clear h b1 hown hs1 hb1 hm
  go_enter Tryz.func385, Tryz.ntmps385
  go_wp2
  go_ret
  exact ⟨rfl, unhide HH⟩
end Go.Proofs.YtfbphoppgmganaaGreat

/-
  The heap of leaves: one put in, the first one taken, and the heap that is made; walks over the dump.
-/
namespace Go.Proofs.YtfbphoppgmganaaGreat
open Go.RowKit Go.Maps
set_option linter.unusedVariables false
set_option linter.unusedSimpArgs false

/-- the heap, of no more than a million leaves -/
def HI (K : List P4) (F : List Fr3) (w0 : World) (bm bk g : Nat) (w : World) (l : List SE) : Prop := HSt K F w0 bm bk g w l ∧ l.length ≤ 1000000
theorem stObj (K : List P4) (F : List Fr3) (hK : K.length ≤ 1000000000) (KW : ∀ p ∈ K, Wf4 p.1 p.2.1 p.2.2.1 p.2.2.2) (w0 : World) (bm bk g : Nat) :
    HeapObj (∀ f ∈ F, f.2.2 ≠ 279) seD aheadS g (HI K F w0 bm bk g) (fun _ x v => v = .iface 279 (stv x) ∧ x.2 ∈ K) where
  obj := fun w l h => let ⟨v, b, _⟩ := h.1.1; ⟨v, _, b⟩
  less := fun w l x y i j h hb hi hj => (stLess_any K F hK KW w0 bm bk g w l x y i j h.1 hb hi hj h.2).mono (fun e w' k => ⟨k.1, k.2, h.2⟩)
  swap := fun w l x y i j h hb hi hj => (stSwap_any K F w0 bm bk g w l x y i j h.1 hb hi hj h.2).mono (fun e w' k => ⟨k.1, k.2, by rw [HeapM.swap_len]; exact h.2⟩)
  len := fun w l x y h hb => (stLen_any K F w0 bm bk g w l x y h.1 hb).mono (fun e w' k => ⟨k.1, k.2, h.2⟩)
  push := fun hF w l a v h hv hl => by
    obtain ⟨rfl, hk⟩ := hv
    exact (stPush_any K F w0 bm bk g w l a h.1 hF hk hl).mono (fun e w' k => ⟨k.1, k.2, by simp; omega⟩)
  pop := fun w l h h0 => (stPop_any K F w0 bm bk g w l h.1 h0 h.2).mono (fun e w' k => ⟨⟨_, k.1, rfl, at_mem h.1.2.2.2.2.1 (by omega)⟩, k.2, by simp; have := h.2; omega⟩)

set_option maxRecDepth 100000 in
set_option maxHeartbeats 2000000 in
theorem add_any (K : List P4) (F : List Fr3) (hK : K.length ≤ 1000000000) (KW : ∀ p ∈ K, Wf4 p.1 p.2.1 p.2.2.1 p.2.2.2) (w0 : World) (bm bk g : Nat) (w : World) (l : List SE) (z : SE) (h : HI K F w0 bm bk g w l) (hF : ∀ f ∈ F, f.2.2 ≠ 279) (hz : z.2 ∈ K) (hl : l.length < 1000000) :
    Calls Tryz.prog 231 #[.pointer (some ⟨g, 0, none⟩), stv z] w fun e w' => e = .returned (.tuple #[]) ∧ HI K F w0 bm bk g w' (HeapM.upL seD aheadS (l.length + 1) (l ++ [z]) l.length) := by
  obtain ⟨n1, p1, p2, p3, p4⟩ := z
  have hb0 := below_al (Below.refl _ w) (.cells #[.string (bs n1), .int .i64 p1, .int .i64 p2, .int .i64 p3, .int .i64 p4] 279)
  have C := hide (push_any (stObj K F hK KW w0 bm bk g) hF l (n1, p1, p2, p3, p4) (.iface 279 (stv (n1, p1, p2, p3, p4))) _ ⟨h.1.below hb0, h.2⟩ ⟨rfl, hz⟩ hl)
  clear h hb0
  go_enter Tryz.func231, Tryz.ntmps231
  go_wp2_with fail
  refine (unhide C).mono ?_
  rintro e w1 ⟨rfl, hh⟩
  have HH := hide hh
  clear hh C
  go_wp2
  go_end0
  exact ⟨rfl, unhide HH⟩

/-- one more row is left alone -/
theorem HSt.more {K : List P4} {F : List Fr3} {w0 w : World} {bm bk g : Nat} {l : List SE} (h : HSt K F w0 bm bk g w l) {v : Value} (hb : Blk w g #[v, cloV bk] 276) (f : Fr3) (h2 : FrB bm g f w) (hv : some f.1 ≠ v.ownBlock) : HSt K (f :: F) w0 bm bk g w l := by
  obtain ⟨⟨v0, h1, o1, hF⟩, h3, h4, h5, h6, h7, h8⟩ := h
  have e := h1.symm.trans hb
  simp at e
  subst e
  exact ⟨⟨v0, h1, o1, fun k hk => by rcases List.mem_cons.1 hk with rfl | hk; exact hv; exact hF k hk⟩, h3, h4, h5, h6, h7, fun k hk => by rcases List.mem_cons.1 hk with rfl | hk; exact h2; exact h8 k hk⟩
theorem HSt.less {K : List P4} {f : Fr3} {F : List Fr3} {w0 w : World} {bm bk g : Nat} {l : List SE} (h : HSt K (f :: F) w0 bm bk g w l) : HSt K F w0 bm bk g w l := by
  obtain ⟨⟨v0, h1, o1, hF⟩, h3, h4, h5, h6, h7, h8⟩ := h
  exact ⟨⟨v0, h1, o1, fun k hk => hF k (List.mem_cons_of_mem _ hk)⟩, h3, h4, h5, h6, h7, fun k hk => h8 k (List.mem_cons_of_mem _ hk)⟩
/-- a row that is left alone is written: the heap stands -/
theorem HSt.write {K : List P4} {f : Fr3} {F : List Fr3} {w0 w : World} {bm bk g : Nat} {l : List SE} (h : HSt K (f :: F) w0 bm bk g w l) (hk : f.1 ≠ bk) (h0 : w0.heap.size ≤ f.1) (hd : ∀ k ∈ F, k.1 ≠ f.1) (j : Nat) (x : Value) : HSt K ((f.1, f.2.1.setIfInBounds j x, f.2.2) :: F) w0 bm bk g (w.setCell ⟨f.1, j, none⟩ x) l := by
  obtain ⟨⟨v0, h1, o1, hF⟩, h3, h4, h5, h6, h7, h8⟩ := h
  have hf := h8 f (List.mem_cons_self ..)
  have hv := hF f (List.mem_cons_self ..)
  refine ⟨⟨v0, h1.other _ _ _ (fun e => hf.2.2 e.symm), o1.kept (grownBy_set (grownBy_refl w (some f.1)) j x) (.inr (fun e => hv e.symm)), ?_⟩, h3.other _ _ _ (fun e => hk e.symm), h4.grown (grownBy_set (grownBy_refl w (some f.1)) j x) (by simp; exact fun e => hf.2.1 e.symm), h5, h6, below_sc h7 _ _ _ h0, ?_⟩
  · intro k hk'
    rcases List.mem_cons.1 hk' with rfl | hk'
    · exact hv
    · exact hF k (List.mem_cons_of_mem _ hk')
  · intro k hk'
    rcases List.mem_cons.1 hk' with rfl | hk'
    · exact ⟨hf.1.set j x, hf.2⟩
    · have := h8 k (List.mem_cons_of_mem _ hk')
      exact ⟨this.1.other _ _ _ (hd k hk'), this.2⟩

set_option maxRecDepth 100000 in
set_option maxHeartbeats 2000000 in
theorem least_any (K : List P4) (w : World) : Calls Tryz.prog 230 #[] w fun e w' => e = .returned (cloV (w.heap.size + 1)) ∧ Blk w' (w.heap.size + 1) #[.map (some w.heap.size)] 325 ∧ HoldsK K w.heap.size w' ∧ Below w.heap.size w w' ∧ w'.heap.size = w.heap.size + 2 := by
  have hmm := @run_makeMap Tryz.prog
  have hmf : ∀ (fn : Fn) (first cap : Array Value) (w : World), (Instr.makeFunc fn first cap).run Tryz.prog w = .ok (.func fn first cap) w := fun _ _ _ _ => rfl
  go_enter Tryz.func230, Tryz.ntmps230
  go_wp2
  go_ret
  refine ⟨rfl, ?_, holdsK_made K ?_, below_al (below_al (Below.refl _ _) _) _, by simp⟩
  · have := blk_new (w.alloc (Obj.map #[] 0)) #[Value.map (some w.heap.size)] 325
    rw [al_size] at this
    exact this
  · have := (World.ownsMap_made w Tryz.prog 206 fracElem).alloc (.cells #[.map (some w.heap.size)] 325)
    exact this

set_option maxRecDepth 100000 in
set_option maxHeartbeats 4000000 in
theorem takeFirst_any (K : List P4) (F : List Fr3) (hK : K.length ≤ 1000000000) (KW : ∀ p ∈ K, Wf4 p.1 p.2.1 p.2.2.1 p.2.2.2) (w0 : World) (bm bk g : Nat) (w : World) (l : List SE) (h : HI K F w0 bm bk g w l) (h0 : 0 < l.length) (hw0 : w0.heap.size ≤ w.heap.size) :
    Calls Tryz.prog 234 #[.pointer (some ⟨g, 0, none⟩)] w fun e w' => e = .returned (stv (HeapM.at' seD (HeapM.popL seD aheadS l) (l.length - 1))) ∧ HI K F w0 bm bk g w' ((HeapM.popL seD aheadS l).take (l.length - 1)) := by
  obtain ⟨v, b1, hown, _⟩ := h.1.1
  have hgl := b1.lt
  have h5 := h.1.2.2.2.1
  have hb0 := below_al (Below.refl _ w) (.cells #[.string ⟨#[]⟩, .int .i64 0, .int .i64 0, .int .i64 0, .int .i64 0] 279)
  have hM : HI K ((w.heap.size, #[.string ⟨#[]⟩, .int .i64 0, .int .i64 0, .int .i64 0, .int .i64 0], 279) :: F) w0 bm bk g _ l := ⟨(h.1.below hb0).more (b1.below hb0) (w.heap.size, #[.string ⟨#[]⟩, .int .i64 0, .int .i64 0, .int .i64 0, .int .i64 0], 279) ⟨blk_new _ _ _, by show w.heap.size ≠ bm; omega, by show w.heap.size ≠ g; omega⟩ (fun e => by have := (hown.lt w.heap.size e.symm).2; omega), h.2⟩
  have C := hide (pop_any (stObj K _ hK KW w0 bm bk g) l _ hM h0 h.2)
  have HD := hide (show ∀ k ∈ F, k.1 ≠ w.heap.size from fun k hk => by have := (h.1.2.2.2.2.2.2 k hk).1.lt; omega)
  obtain ⟨R, hR⟩ : ∃ R, (HeapM.popL seD aheadS l).take (l.length - 1) = R := ⟨_, rfl⟩
  obtain ⟨⟨n1, p1, p2, p3, p4⟩, hs1⟩ : ∃ s, HeapM.at' seD (HeapM.popL seD aheadS l) (l.length - 1) = s := ⟨_, rfl⟩
  rw [hR, hs1] at C ⊢
  have hbk : w.heap.size ≠ bk := by omega
  clear h b1 hown hb0 hM hR hs1
  have hta := assertS (n1, p1, p2, p3, p4)
  go_enter Tryz.func234, Tryz.ntmps234
  go_wp2_with fail
  refine (unhide C).mono ?_
  rintro e w1 ⟨⟨v1, rfl, rfl, _⟩, hh⟩
  have q1 := hh.1.write hbk hw0 (unhide HD) 0 (.string (bs n1))
  have q2 := q1.write hbk hw0 (unhide HD) 1 (.int .i64 p1)
  have q3 := q2.write hbk hw0 (unhide HD) 2 (.int .i64 p2)
  have q4 := q3.write hbk hw0 (unhide HD) 3 (.int .i64 p3)
  have q5 := q4.write hbk hw0 (unhide HD) 4 (.int .i64 p4)
  have bw := (hh.1.2.2.2.2.2.2 _ (List.mem_cons_self ..)).1
  have c0 := bw.at 0; have c1 := bw.at 1; have c2 := bw.at 2; have c3 := bw.at 3; have c4 := bw.at 4
  have f0 := bw.f 0; have f1 := bw.f 1; have f2 := bw.f 2; have f3 := bw.f 3; have f4 := bw.f 4
  simp at c0 c1 c2 c3 c4
  have bz := (q5.2.2.2.2.2.2 _ (List.mem_cons_self ..)).1
  have z0 := bz.at 0; have z1 := bz.at 1; have z2 := bz.at 2; have z3 := bz.at 3; have z4 := bz.at 4
  simp at z0 z1 z2 z3 z4
  have HQ := hide (show HI K F w0 bm bk g _ R from ⟨q5.less, hh.2⟩)
  simp only at HQ f0 f1 f2 f3 f4
  clear hh q1 q2 q3 q4 q5 bw bz C
  go_wp2
  refine bodyPost_ret (v := stv (n1, p1, p2, p3, p4)) (by simp [results, Tryz.results234, go_sem, z0, z1, z2, z3, z4]) rfl ⟨rfl, unhide HQ⟩
end Go.Proofs.YtfbphoppgmganaaGreat

/-
  Queues: values, rows of them in memory, and what a call leaves of such rows.
-/
namespace Go.Proofs.YtfbphoppgmganaaGreat
open Go.RowKit
set_option linter.unusedVariables false

structure Q where
  name : List UInt8
  parent : List UInt8
  due : Int
  most : Int

abbrev qv (q : Q) : Value := .agg #[.string (bs q.name), .string (bs q.parent), .int .i64 q.due, .int .i64 q.most]

/-- the cells of one queue stand from place p of block b on -/
def QAt (w : World) (b p : Nat) (q : Q) : Prop :=
  w.cell? ⟨b, p, none⟩ = some (.string (bs q.name)) ∧ w.cell? ⟨b, p + 1, none⟩ = some (.string (bs q.parent)) ∧ w.cell? ⟨b, p + 2, none⟩ = some (.int .i64 q.due) ∧ w.cell? ⟨b, p + 3, none⟩ = some (.int .i64 q.most)
/-- a slice value that holds these queues -/
def QRow (w : World) (ao : Option Addr) (len : Nat) (l : List Q) : Prop :=
  len = l.length ∧ (len = 0 ∨ ∃ b off, ao = some ⟨b, off, none⟩ ∧ ∀ i (h : i < l.length), QAt w b (off + i * 4) l[i])
theorem QAt.lt {w : World} {b p : Nat} {q : Q} (h : QAt w b p q) : b < w.heap.size := cell_lt h.1
theorem QAt.below {w w' : World} {b p : Nat} {q : Q} (h : QAt w b p q) (hb : Below w.heap.size w w') : QAt w' b p q :=
  ⟨(hb.cell h.lt).trans h.1, (hb.cell h.lt).trans h.2.1, (hb.cell h.lt).trans h.2.2.1, (hb.cell h.lt).trans h.2.2.2⟩
theorem QRow.below {w w' : World} {ao : Option Addr} {len : Nat} {l : List Q} (h : QRow w ao len l) (hb : Below w.heap.size w w') : QRow w' ao len l := by
  obtain ⟨h1, h2⟩ := h
  refine ⟨h1, ?_⟩
  rcases h2 with h2 | ⟨b, off, h3, h4⟩
  · exact .inl h2
  · exact .inr ⟨b, off, h3, fun i h => (h4 i h).below hb⟩
theorem QRow.nil (w : World) (ao : Option Addr) : QRow w ao 0 [] := ⟨rfl, .inl rfl⟩
theorem QRow.at {w : World} {ao : Option Addr} {len : Nat} {l : List Q} (h : QRow w ao len l) {i : Nat} (hi : i < len) : ∃ b off, ao = some ⟨b, off, none⟩ ∧ ∀ (h : i < l.length), QAt w b (off + i * 4) l[i] := by
  obtain ⟨h1, h2⟩ := h
  rcases h2 with h2 | ⟨b, off, h3, h4⟩
  · omega
  · exact ⟨b, off, h3, fun hi => h4 i hi⟩
end Go.Proofs.YtfbphoppgmganaaGreat

/-
  A row of queues that a call makes and fills, one by one.
-/
namespace Go.Proofs.YtfbphoppgmganaaGreat
open Go.RowKit
set_option linter.unusedVariables false

/-- block g is a row of n queues, of which the first k are those of l -/
def QBlk (w : World) (t : TypeId) (g n k : Nat) (l : List Q) : Prop :=
  ∃ arr : Array Value, w.heap[g]? = some (.cells arr t (0, 0)) ∧ arr.size = n * 4 ∧ ∀ i (h : i < l.length), i < k → arr[i * 4]? = some (.string (bs l[i].name)) ∧ arr[i * 4 + 1]? = some (.string (bs l[i].parent)) ∧ arr[i * 4 + 2]? = some (.int .i64 l[i].due) ∧ arr[i * 4 + 3]? = some (.int .i64 l[i].most)
theorem QBlk.lt {w : World} {t : TypeId} {g n k : Nat} {l : List Q} (h : QBlk w t g n k l) : g < w.heap.size := let ⟨_, h, _⟩ := h; lt_of_block h
theorem QBlk.below {w w' : World} {t : TypeId} {g n k : Nat} {l : List Q} (h : QBlk w t g n k l) (hb : Below w.heap.size w w') : QBlk w' t g n k l := by
  have hlt := h.lt
  obtain ⟨arr, h1, h2⟩ := h
  exact ⟨arr, (hb.block g hlt).trans h1, h2⟩
theorem QBlk.cell {w : World} {t : TypeId} {g n k : Nat} {l : List Q} (h : QBlk w t g n k l) {j : Nat} (hj : j < n * 4) : ∃ v, w.cell? ⟨g, j, none⟩ = some v := by
  obtain ⟨arr, h1, h2, _⟩ := h
  exact ⟨arr[j]'(by omega), by simp [World.cell?, h1, Array.getElem?_eq_getElem (show j < arr.size by omega)]⟩
theorem QBlk.frozen {w : World} {t : TypeId} {g n k : Nat} {l : List Q} (h : QBlk w t g n k l) (j : Nat) : w.frozen? ⟨g, j, none⟩ = false := by
  obtain ⟨arr, h1, h2, _⟩ := h
  simp [World.frozen?, h1]
theorem QBlk.row {w : World} {t : TypeId} {g n : Nat} {l : List Q} (h : QBlk w t g n n l) (hl : n = l.length) : QRow w (some ⟨g, 0, none⟩) n l := by
  obtain ⟨arr, h1, h2, h3⟩ := h
  refine ⟨hl, .inr ⟨g, 0, rfl, fun i hi => ?_⟩⟩
  obtain ⟨a, b, c, d⟩ := h3 i hi (by omega)
  unfold QAt
  simp only [Nat.zero_add]
  exact ⟨by simp [World.cell?, h1, a], by simp [World.cell?, h1, b], by simp [World.cell?, h1, c], by simp [World.cell?, h1, d]⟩
theorem qblk_made (w : World) (t : TypeId) (z : Array Value) (n : Nat) (l : List Q) : QBlk (w.alloc (.cells (madeCells z (n * 4)) t)) t w.heap.size n 0 l :=
  ⟨madeCells z (n * 4), by show (w.heap.push _)[w.heap.size]? = _; simp, size_madeCells _ _, fun i _ h => absurd h (by omega)⟩
/-- one queue more -/
def putQ (w : World) (g p : Nat) (q : Q) : World := (((w.setCell ⟨g, p, none⟩ (.string (bs q.name))).setCell ⟨g, p + 1, none⟩ (.string (bs q.parent))).setCell ⟨g, p + 2, none⟩ (.int .i64 q.due)).setCell ⟨g, p + 3, none⟩ (.int .i64 q.most)
theorem QBlk.step {w : World} {t : TypeId} {g n k : Nat} {l : List Q} (h : QBlk w t g n k l) (hk : k < n) (hl : k < l.length) : QBlk (putQ w g (k * 4) l[k]) t g n (k + 1) l := by
  obtain ⟨arr, h1, h2, h3⟩ := h
  have e1 := heap_setCell_same w g (k * 4) _ _ (.string (bs l[k].name)) h1
  have e2 := heap_setCell_same _ g (k * 4 + 1) _ _ (.string (bs l[k].parent)) e1
  have e3 := heap_setCell_same _ g (k * 4 + 2) _ _ (.int .i64 l[k].due) e2
  have e4 := heap_setCell_same _ g (k * 4 + 3) _ _ (.int .i64 l[k].most) e3
  refine ⟨_, e4, by simp [h2], fun i hi hik => ?_⟩
  by_cases e : i = k
  · subst e
    have q1 : i * 4 + 3 < arr.size := by omega
    refine ⟨?_, ?_, ?_, ?_⟩ <;> simp [Array.getElem?_setIfInBounds, h2] <;> omega
  · obtain ⟨a, b, c, d⟩ := h3 i hi (by omega)
    refine ⟨?_, ?_, ?_, ?_⟩
    · rw [← a]; simp only [Array.getElem?_setIfInBounds]; repeat rw [if_neg (by omega)]
    · rw [← b]; simp only [Array.getElem?_setIfInBounds]; repeat rw [if_neg (by omega)]
    · rw [← c]; simp only [Array.getElem?_setIfInBounds]; repeat rw [if_neg (by omega)]
    · rw [← d]; simp only [Array.getElem?_setIfInBounds]; repeat rw [if_neg (by omega)]
/-- block g is a row of n queues -/
def QAny (w : World) (t : TypeId) (g n : Nat) : Prop := QBlk w t g n 0 []
theorem QBlk.any {w : World} {t : TypeId} {g n k : Nat} {l : List Q} (h : QBlk w t g n k l) : QAny w t g n := by
  obtain ⟨arr, h1, h2, _⟩ := h
  exact ⟨arr, h1, h2, fun i hi => absurd hi (by simp)⟩
theorem QAny.set {w : World} {t : TypeId} {g n : Nat} (h : QAny w t g n) (j : Nat) (v : Value) : QAny (w.setCell ⟨g, j, none⟩ v) t g n := by
  obtain ⟨arr, h1, h2, _⟩ := h
  exact ⟨_, heap_setCell_same w g j _ _ v h1, by simp [h2], fun i hi => absurd hi (by simp)⟩
end Go.Proofs.YtfbphoppgmganaaGreat

/-
  The laws' own szQueue and szQueueS: how much is handed in; walks over the dump.
-/
namespace Go.Proofs.YtfbphoppgmganaaGreat
open Go.RowKit
set_option linter.unusedVariables false

def szQ (q : Q) (a : Int) : Int := if a - q.name.length < 0 then -1 else if a - q.name.length - q.parent.length < 0 then -1 else a - q.name.length - q.parent.length
/-- not too much -/
def FitQ (l : List Q) : Prop := l.length ≤ 1048576 ∧ ∀ q ∈ l, q.name.length ≤ 1048576 ∧ q.parent.length ≤ 1048576

set_option maxRecDepth 100000 in
set_option maxHeartbeats 1000000 in
theorem szQueue_any (q : Q) (a : Int) (w : World) (ha0 : 0 ≤ a) (ha1 : a ≤ 1048576) (hn : q.name.length ≤ 9223372036854775807) (hp : q.parent.length ≤ 9223372036854775807) :
    Calls Tryz.prog 101 #[qv q, .int .i64 a] w fun e w' => e = .returned (.int .i64 (szQ q a)) ∧ Below w.heap.size w w' := by
  obtain ⟨nm, pa, du, mo⟩ := q
  have z1 := bs_size nm
  have z2 := bs_size pa
  simp only at hn hp
  unfold szQ
  simp only
  by_cases h1 : a - nm.length < 0
  · rw [if_pos h1]
    go_enter Tryz.func101, Tryz.ntmps101
    go_wp2
    go_ret
    refine ⟨rfl, ?_⟩
    repeat (first | exact Below.refl _ _ | refine below_al ?_ _ | refine Below.drew ?_ | refine below_sc ?_ _ _ _ (by omega))
  · rw [if_neg h1]
    by_cases h2 : a - nm.length - pa.length < 0
    · rw [if_pos h2]
      go_enter Tryz.func101, Tryz.ntmps101
      go_wp2
      go_ret
      refine ⟨rfl, ?_⟩
      repeat (first | exact Below.refl _ _ | refine below_al ?_ _ | refine Below.drew ?_ | refine below_sc ?_ _ _ _ (by omega))
    · rw [if_neg h2]
      go_enter Tryz.func101, Tryz.ntmps101
      go_wp2
      go_ret
      refine ⟨rfl, ?_⟩
      repeat (first | exact Below.refl _ _ | refine below_al ?_ _ | refine Below.drew ?_ | refine below_sc ?_ _ _ _ (by omega))
theorem szQ_cases (q : Q) (a : Int) (ha0 : 0 ≤ a) (ha1 : a ≤ 1048576) : szQ q a = -1 ∨ (0 ≤ szQ q a ∧ szQ q a ≤ a ∧ q.name.length ≤ 1048576 ∧ q.parent.length ≤ 1048576) := by
  unfold szQ
  split
  · exact .inl rfl
  · split
    · exact .inl rfl
    · right; omega

set_option maxRecDepth 100000 in
set_option maxHeartbeats 1000000 in
theorem szQueueS_any (ao : Option Addr) (len cap : Nat) (l : List Q) (w : World) (h : QRow w ao len l) (hlen : len ≤ 9223372036854775807) (hm : ∀ q ∈ l, q.name.length ≤ 9223372036854775807 ∧ q.parent.length ≤ 9223372036854775807) :
    Calls Tryz.prog 37 #[.slice ao len cap, .int .i64 1048576] w fun e w' => ∃ r : Int, e = .returned (.int .i64 r) ∧ (r = -1 ∨ (0 ≤ r ∧ r ≤ 1048576 ∧ FitQ l)) ∧ Below w.heap.size w w' := by
  have HR := hide h
  have HL := hide h.1
  have HM := hide hm
  clear h hm
  by_cases hbig : len ≤ 1048576
  · have hb1 : ¬ (1048576 : Int) - len < 0 := by omega
    go_enter Tryz.func37, Tryz.ntmps37
    go_wp2
    go_loopw [1, 5] (fun s i wr => ∃ (k : Nat) (a : Int), k ≤ len ∧ i = .int .i64 k ∧ s = .int .i64 a ∧ 0 ≤ a ∧ a ≤ 1048576 ∧ Hid (∀ q ∈ l.take k, q.name.length ≤ 1048576 ∧ q.parent.length ≤ 1048576) ∧ Hid (Below w.heap.size w wr)) (fun _ i _ => len - (intOf i).toNat)
    case atStart => exact ⟨0, (1048576 : Int) - len, Nat.zero_le _, rfl, rfl, by omega, by omega, hide (by simp), hide (Below.refl _ _)⟩
    case round =>
      obtain ⟨k, a, hk, rfl, rfl, ha0, ha1, HP, HB⟩ := hrel
      by_cases hlt : k < len
      · obtain ⟨b, off, rfl, hq⟩ := ((unhide HR).below (unhide HB)).at hlt
        have hkl : k < l.length := by have := unhide HL; omega
        obtain ⟨c0, c1, c2, c3⟩ := hq hkl
        obtain ⟨n1, n2⟩ := unhide HM l[k] (List.getElem_mem _)
        have htk := List.take_succ_eq_append_getElem hkl
        obtain ⟨q, hs⟩ : ∃ q, l[k] = q := ⟨_, rfl⟩
        rw [hs] at c0 c1 c2 c3 n1 n2 htk
        have HTK := hide htk
        have C := hide (fun wx => szQueue_any q a wx ha0 ha1 n1 n2)
        obtain ⟨r, hr⟩ : ∃ r, szQ q a = r := ⟨_, rfl⟩
        have hcs := szQ_cases q a ha0 ha1
        rw [hr] at C hcs
        have HC := hide hcs
        clear hq hs hkl hr hcs htk n1 n2
        go_wp2_with fail
        refine (unhide C _).mono ?_
        rintro e w1 ⟨rfl, hb⟩
        have HB1 := hide (below_on (unhide HB) hb)
        clear hb C c0 c1 c2 c3
        rcases unhide HC with hr | ⟨r0, r1, r2, r3⟩
        · subst hr
          go_wp2
          go_ret
          exact ⟨-1, rfl, .inl rfl, unhide HB1⟩
        · have HN := hide (show ∀ q ∈ l.take (k + 1), q.name.length ≤ 1048576 ∧ q.parent.length ≤ 1048576 by
            rw [unhide HTK]
            intro x hx
            rcases List.mem_append.1 hx with hx | hx
            · exact unhide HP x hx
            · rw [List.mem_singleton.1 hx]; exact ⟨r2, r3⟩)
          clear r2 r3 HP HTK HC
          go_wp2
          go_roundw
          case rel => exact ⟨k + 1, r, by omega, by go_num, rfl, by omega, by omega, HN, HB1⟩
          case measure => simp [intOf]; omega
      · have HF := hide (show FitQ l from ⟨by have := unhide HL; omega, fun q hq => unhide HP q (by rw [List.take_of_length_le (by have := unhide HL; omega)]; exact hq)⟩)
        go_wp2
        go_ret
        exact ⟨a, rfl, .inr ⟨ha0, ha1, unhide HF⟩, unhide HB⟩
  · have hb1 : (1048576 : Int) - len < 0 := by omega
    go_enter Tryz.func37, Tryz.ntmps37
    go_wp2
    go_ret
    exact ⟨-1, rfl, .inl rfl, Below.refl _ _⟩
end Go.Proofs.YtfbphoppgmganaaGreat

/-
  The laws' own toQueue and toQueueS: rows of queues made anew; walks over the dump.
-/
namespace Go.Proofs.YtfbphoppgmganaaGreat
open Go.RowKit
set_option linter.unusedVariables false

set_option maxRecDepth 100000 in
set_option maxHeartbeats 1000000 in
theorem toQueue_any (q : Q) (w : World) :
    Calls Tryz.prog 111 #[qv q] w fun e w' => e = .returned (qv q) ∧ Below w.heap.size w w' := by
  obtain ⟨nm, pa, du, mo⟩ := q
  go_enter Tryz.func111, Tryz.ntmps111
  go_wp2
  refine bodyPost_ret (v := qv ⟨nm, pa, du, mo⟩) (by simp [results, Tryz.results111, go_sem]) rfl ⟨rfl, ?_⟩
  repeat (first | exact Below.refl _ _ | refine below_al ?_ _ | refine Below.drew ?_ | refine below_sc ?_ _ _ _ (by omega))

theorem queueInfo : (Tryz.prog.info? 160).map (fun i => (i.zero, i.size, i.bytes)) = some (some (qv ⟨[], [], 0, 0⟩), 4, 48) := by kernel_rfl
theorem make_queues (n : Nat) (hn : n ≤ 1048576) (w : World) :
    (Instr.makeSlice 35 (.int .i64 (n : Int)) (.int .i64 (n : Int))).run Tryz.prog w = .ok (.slice (some ⟨w.heap.size, 0, none⟩) n n) (w.alloc (.cells (madeCells (qv ⟨[], [], 0, 0⟩).cells (n * 4)) 160)) := by
  obtain ⟨i, hi, hz⟩ := Option.map_eq_some_iff.1 queueInfo
  simp only [Prod.mk.injEq] at hz
  obtain ⟨hz, hs, hb⟩ := hz
  have hr := run_make (P := Tryz.prog) w 35 160 i _ Tryz.underlying35 hi hz .i64 .i64 n n (by omega) (Int.le_refl _) (by rw [hb]; omega) (by omega)
  simp only [Int.toNat_natCast, hs] at hr
  exact hr

set_option maxRecDepth 100000 in
set_option maxHeartbeats 1000000 in
theorem toQueueS_any (ao : Option Addr) (len cap : Nat) (l : List Q) (w : World) (h : QRow w ao len l) (hl : len ≤ 1048576) :
    Calls Tryz.prog 43 #[.slice ao len cap] w fun e w' => e = .returned (.slice (some ⟨w.heap.size, 0, none⟩) len len) ∧ QBlk w' 160 w.heap.size len len l ∧ Below w.heap.size w w' := by
  have HR := hide h
  have HL := hide h.1
  have hmk := make_queues len hl w
  obtain ⟨zs, hzs⟩ : ∃ z, z = (qv ⟨[], [], 0, 0⟩).cells := ⟨_, rfl⟩
  rw [← hzs] at hmk
  clear h hzs
  go_enter Tryz.func43, Tryz.ntmps43
  go_wp2
  clear hmk
  go_loopw [4] (fun i wr => ∃ k : Nat, k ≤ len ∧ i = .int .i64 k ∧ Hid (QBlk wr 160 w.heap.size len k l) ∧ Hid (Below w.heap.size w wr)) (fun i _ => len - (intOf i).toNat)
  case atStart => exact ⟨0, Nat.zero_le _, rfl, hide (qblk_made w _ _ _ _), hide (below_al (Below.refl _ _) _)⟩
  case round =>
    obtain ⟨k, hk, rfl, HQ, HB⟩ := hrel
    by_cases hlt : k < len
    · obtain ⟨b, off, rfl, hq⟩ := ((unhide HR).below (unhide HB)).at hlt
      have hkl : k < l.length := by have := unhide HL; omega
      obtain ⟨c0, c1, c2, c3⟩ := hq hkl
      obtain ⟨q, hs⟩ : ∃ q, l[k] = q := ⟨_, rfl⟩
      rw [hs] at c0 c1 c2 c3
      have hst : ∀ wx, QBlk wx 160 w.heap.size len k l → QBlk (putQ wx w.heap.size (k * 4) q) 160 w.heap.size len (k + 1) l := fun wx hx => by have := hx.step hlt hkl; rw [hs] at this; exact this
      have HST := hide hst
      clear hst hq hs hkl
      go_wp2_with fail
      refine (toQueue_any q _).mono ?_
      rintro e w1 ⟨rfl, hb⟩
      have HQ1 := hide ((unhide HQ).below hb)
      have HB1 := hide (below_on (unhide HB) hb)
      clear hb c0 c1 c2 c3
      obtain ⟨v0, d0⟩ := (unhide HQ1).cell (j := k * 4) (by omega)
      obtain ⟨v1, d1⟩ := (unhide HQ1).cell (j := k * 4 + 1) (by omega)
      obtain ⟨v2, d2⟩ := (unhide HQ1).cell (j := k * 4 + 2) (by omega)
      obtain ⟨v3, d3⟩ := (unhide HQ1).cell (j := k * 4 + 3) (by omega)
      have f0 := (unhide HQ1).frozen (k * 4)
      have f1 := (unhide HQ1).frozen (k * 4 + 1)
      have f2 := (unhide HQ1).frozen (k * 4 + 2)
      have f3 := (unhide HQ1).frozen (k * 4 + 3)
      go_wp2
      go_roundw
      case rel => exact ⟨k + 1, by omega, by go_num, hide (unhide HST _ (unhide HQ1)), hide (below_sc (below_sc (below_sc (below_sc (unhide HB1) _ _ _ (by omega)) _ _ _ (by omega)) _ _ _ (by omega)) _ _ _ (by omega))⟩
      case measure => simp [intOf]; omega
    · have hkk : k = len := by omega
      subst hkk
      go_wp2
      go_ret
      exact ⟨rfl, unhide HQ, unhide HB⟩
end Go.Proofs.YtfbphoppgmganaaGreat
