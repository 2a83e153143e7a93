/-
  Several texts of this claim in one: DropM, MarkX, StLaw, TakG0 (pack.py put them together); each says in its own remark what is proved.
-/
import Derived.Test.YtkpmocbfedgfhaaGreatTakS
import Derived.Test.YtkpmocbfedgfhaaGreatPackH
import Derived.Test.YtkpmocbfedgfhaaGreatMacAt
import Derived.Test.YtkpmocbfedgfhaaGreatPackE
/-
  A right state without an application or a machine, in plain words: the model's way and the program's are one.
-/
namespace Go.Proofs.YtkpmocbfedgfhaaGreat
open Go.RowKit
set_option linter.unusedVariables false
theorem conts_pair {apps : List Appl} {ms : List Mac} : ∀ (cs : List Con) (last : Int), contsS apps ms last cs = true → (∀ c ∈ cs, last < c.id ∧ (findAp c.app apps).isSome = true ∧ (findM c.node ms).isSome = true) ∧ cs.Pairwise (fun a b => a.id < b.id)
  | [], last, _ => ⟨fun c h => absurd h (by simp), .nil⟩
  | c :: t, last, h => by
    simp only [contsS, Bool.and_eq_true, decide_eq_true_eq] at h
    obtain ⟨h1, _, h3, h4, _, h6⟩ := h
    obtain ⟨i1, i2⟩ := conts_pair t c.id h6
    refine ⟨fun d hd => ?_, List.pairwise_cons.2 ⟨fun d hd => (i1 d hd).1, i2⟩⟩
    rcases List.mem_cons.1 hd with rfl | hd
    · exact ⟨h1, h3, h4⟩
    · exact ⟨by have := (i1 d hd).1; omega, (i1 d hd).2⟩
theorem apps_pair {qs : List Q} {nx : Int} : ∀ (l : List Appl) (last : Int), appsFrom qs nx last l = true → (∀ a ∈ l, last < a.id) ∧ l.Pairwise (fun a b => a.id ≠ b.id)
  | [], last, _ => ⟨fun c h => absurd h (by simp), .nil⟩
  | a :: t, last, h => by
    simp only [appsFrom, Bool.and_eq_true, decide_eq_true_eq] at h
    obtain ⟨h1, _, _, _, h5⟩ := h
    obtain ⟨i1, i2⟩ := apps_pair t a.id h5
    refine ⟨fun d hd => ?_, List.pairwise_cons.2 ⟨fun d hd => by have := i1 d hd; omega, i2⟩⟩
    rcases List.mem_cons.1 hd with rfl | hd
    · exact h1
    · have := i1 d hd; omega
theorem machs_pair {ck : Int} : ∀ (l : List Mac) (last : List UInt8), machsFrom ck last l = true → l.Pairwise (fun a b => a.name ≠ b.name)
  | [], last, _ => .nil
  | m :: t, last, h => by
    have h' := h
    simp only [machsFrom, Bool.and_eq_true, decide_eq_true_eq] at h
    obtain ⟨_, _, _, _, h5⟩ := h
    refine List.pairwise_cons.2 ⟨fun d hd e => ?_, machs_pair t m.name h5⟩
    have := machs_above t m.name h5 d hd
    rw [e, bl_irr] at this
    exact absurd this (by simp)
/-- the one of that word is taken out -/
theorem erase_filter {α β : Type} [DecidableEq β] (f : α → β) (v : β) : ∀ (l : List α) (j : Nat) (h : j < l.length), l.Pairwise (fun a b => f a ≠ f b) → f l[j] = v → l.eraseIdx j = l.filter (fun a => !decide (f a = v))
  | a :: t, 0, _, hp, e => by
    have hp' := List.pairwise_cons.1 hp
    simp only [List.getElem_cons_zero] at e
    rw [List.eraseIdx_cons_zero, List.filter_cons_of_neg (by simp [e])]
    symm
    rw [List.filter_eq_self]
    intro b hb
    simp
    exact fun h => hp'.1 b hb (e.trans h.symm)
  | a :: t, j + 1, h, hp, e => by
    have hp' := List.pairwise_cons.1 hp
    simp only [List.getElem_cons_succ] at e
    have hj : j < t.length := by simpa using h
    rw [List.eraseIdx_cons_succ, erase_filter f v t j hj hp'.2 e, List.filter_cons_of_pos]
    simp
    exact fun h => hp'.1 t[j] (List.getElem_mem hj) (h.trans e.symm)
theorem filter_none {α β : Type} [DecidableEq β] (f : α → β) (v : β) (l : List α) (h : l.find? (fun a => decide (f a = v)) = none) : l.filter (fun a => !decide (f a = v)) = l ∧ l.filter (fun a => decide (f a = v)) = [] := by
  rw [List.find?_eq_none] at h
  refine ⟨?_, ?_⟩
  · rw [List.filter_eq_self]
    intro a ha
    simpa using h a ha
  · rw [List.filter_eq_nil_iff]
    exact h
/-- of those that some word holds of, by their numbers -/
theorem ids_filter (p : Con → Bool) (cs : List Con) (hp : cs.Pairwise (fun a b => a.id < b.id)) : ∀ c ∈ cs, hasI c.id ((cs.filter p).map (fun c => c.id)) = p c := by
  intro c hc
  by_cases h : p c = true
  · rw [h, hasI_iff]
    exact List.mem_map.2 ⟨c, List.mem_filter.2 ⟨hc, h⟩, rfl⟩
  · have h' : p c = false := by simpa using h
    rw [h', ← Bool.not_eq_true, hasI_iff, List.mem_map]
    rintro ⟨d, hd, e⟩
    obtain ⟨hd1, hd2⟩ := List.mem_filter.1 hd
    have : d = c := by
      obtain ⟨i, hi, rfl⟩ := List.getElem_of_mem hc
      obtain ⟨j, hj, rfl⟩ := List.getElem_of_mem hd1
      have hpw := List.pairwise_iff_getElem.1 hp
      rcases Nat.lt_trichotomy i j with hij | hij | hij
      · have := hpw i j hi hj hij; omega
      · subst hij; rfl
      · have := hpw j i hj hi hij; omega
    rw [this] at hd2
    exact h hd2
theorem okParts {s : St} (h : stateOkV s = true) : s.cs.Pairwise (fun a b => a.id < b.id) ∧ (∀ c ∈ s.cs, (findAp c.app s.apps).isSome = true ∧ (findM c.node s.ms).isSome = true) ∧ s.apps.Pairwise (fun a b => a.id ≠ b.id) ∧ s.ms.Pairwise (fun a b => a.name ≠ b.name) := by
  simp only [stateOkV, stateOkS, Bool.and_eq_true, appsOkV, machsOkS] at h
  obtain ⟨_, _, _, _, _, ⟨_, h6⟩, ⟨h7, _⟩, _, h9⟩ := h
  obtain ⟨c1, c2⟩ := conts_pair _ _ h9
  exact ⟨c2, fun c hc => (c1 c hc).2, (apps_pair _ _ h6).2, machs_pair _ _ ((machsS_iff _ _).1 h7).1⟩
/-- the numbers of an application's containers -/
def idsOf (p : Con → Bool) (cs : List Con) : List Int := (cs.filter p).map (fun c => c.id)
theorem take_ids {s : St} (h : stateOkV s = true) (p : Con → Bool) : takeV s (idsOf p s.cs) = (⟨s.qs, s.clock, s.epoch, s.next, s.serial, s.apps, s.ms, s.cs.filter (fun q => !p q)⟩, s.cs.filter p) := by
  have hp := ids_filter p s.cs (okParts h).1
  rw [(takeV_eq s _).1 h]
  have e1 : s.cs.filter (fun q => hasI q.id (idsOf p s.cs)) = s.cs.filter p := List.filter_congr hp
  have e2 : s.cs.filter (fun q => !hasI q.id (idsOf p s.cs)) = s.cs.filter (fun q => !p q) := List.filter_congr (fun c hc => by rw [idsOf, hp c hc])
  rw [e1, e2]
theorem drop_none {s : St} {app : Int} (h : stateOkV s = true) (hn : apAt s.apps app < 0) : dropV s app = (s, []) := by
  rcases apAt_find app s.apps with ⟨h1, _⟩ | ⟨j, hj, _, h2⟩
  · rw [(dropV_eq s app).1 h]
    have e1 := (filter_none (fun a : Appl => a.id) app s.apps h1).1
    have hc : ∀ c ∈ s.cs, ¬ c.app = app := fun c hc e => by
      have := ((okParts h).2.1 c hc).1
      rw [e, h1] at this
      exact absurd this (by simp)
    have e2 : s.cs.filter (fun q => !decide (q.app = app)) = s.cs := List.filter_eq_self.2 (fun c hx => by simpa using hc c hx)
    have e3 : s.cs.filter (fun q => decide (q.app = app)) = [] := List.filter_eq_nil_iff.2 (fun c hx => by simpa using hc c hx)
    rw [e1, e2, e3]
  · omega
theorem drop_some {s : St} {app : Int} (h : stateOkV s = true) {j : Nat} (hn : apAt s.apps app = (j : Int)) : j < s.apps.length ∧ dropV s app = (⟨s.qs, s.clock, s.epoch, s.next, s.serial, s.apps.eraseIdx j, s.ms, (takeV s (idsOf (fun q => decide (q.app = app)) s.cs)).1.cs⟩, (takeV s (idsOf (fun q => decide (q.app = app)) s.cs)).2) := by
  rcases apAt_find app s.apps with ⟨_, h1⟩ | ⟨i, hi, h1, h2⟩
  · omega
  · obtain rfl : i = j := by omega
    refine ⟨hi, ?_⟩
    have hid : s.apps[i].id = app := by simpa using List.find?_some h1
    rw [(dropV_eq s app).1 h, take_ids h, erase_filter (fun a : Appl => a.id) app s.apps i hi (okParts h).2.2.1 hid]
end Go.Proofs.YtkpmocbfedgfhaaGreat

/-
  The laws' own markAppS and markState over what toState made: what they leave alone; walks over the dump.
-/
namespace Go.Proofs.YtkpmocbfedgfhaaGreat
open Go.RowKit
set_option linter.unusedVariables false
/-- block g is a row of n applications whose asks lie in blocks from B on to E -/
def AWh (w : World) (B E g n : Nat) : Prop := Cel w 44 g (n * 3) ∧ ∀ i, i < n → ∃ b len, w.cell? ⟨g, i * 3 + 2, none⟩ = some (.slice (some ⟨b, 0, none⟩) len len) ∧ Cel w 121 b (len * 5) ∧ len ≤ 1048576 ∧ B ≤ b ∧ b < E ∧ b ≠ g
theorem AWh.below {w w' : World} {B E g n : Nat} (h : AWh w B E g n) (hb : Below w.heap.size w w') : AWh w' B E g n :=
  ⟨h.1.below hb, fun i hi => let ⟨b, len, a, c, d⟩ := h.2 i hi; ⟨b, len, cellBel a hb, c.below hb, d⟩⟩
theorem AWh.sc {w : World} {B E g n : Nat} (h : AWh w B E g n) (j : Nat) (v : Value) (hj : ∀ i, j ≠ i * 3 + 2) : AWh (w.setCell ⟨g, j, none⟩ v) B E g n :=
  ⟨h.1.set _ _ _, fun i hi => let ⟨b, len, a, c, d⟩ := h.2 i hi; ⟨b, len, cellKeep a (hj i), c.set _ _ _, d⟩⟩
theorem AWh.mono {w : World} {B E B' E' g n : Nat} (h : AWh w B E g n) (h1 : B' ≤ B) (h2 : E ≤ E') : AWh w B' E' g n :=
  ⟨h.1, fun i hi => let ⟨b, len, a, c, d, e, f, k⟩ := h.2 i hi; ⟨b, len, a, c, d, by omega, by omega, k⟩⟩
end Go.Proofs.YtkpmocbfedgfhaaGreat

/-
  What a law over an answer that is a state and a list of containers holds: the answer, its marks.
-/
namespace Go.Proofs.YtkpmocbfedgfhaaGreat
open Go.RowKit
set_option linter.unusedVariables false
/-- an answer in a variable: its state and its list own their memory -/
structure AnsL (B E : Nat) (w : World) (g : Nat) (y : Sls) (s : St) (hs : List AV) (go : Option Addr) (gn : Nat) (gone : List Con) : Prop where
  box : Blk w g (svc y s) 31
  a : SAns B E w y s hs
  c : ConRow w go gn gone
  co : Own1 B E w 119 5 go gn
  ap : ∀ k, inR go gn k → ¬ inR y.ca y.cl k
  ge : E ≤ g
theorem AnsL.below {B E : Nat} {w w' : World} {g : Nat} {y : Sls} {s : St} {hs : List AV} {go : Option Addr} {gn : Nat} {gone : List Con} (h : AnsL B E w g y s hs go gn gone) (hb : Below w.heap.size w w') : AnsL B E w' g y s hs go gn gone :=
  ⟨h.box.below hb, h.a.below hb, h.c.below hb, h.co.below hb, h.ap, h.ge⟩
theorem AnsL.al {B E : Nat} {w : World} {g : Nat} {y : Sls} {s : St} {hs : List AV} {go : Option Addr} {gn : Nat} {gone : List Con} (h : AnsL B E w g y s hs go gn gone) (o : Obj) : AnsL B E (w.alloc o) g y s hs go gn gone := h.below (below_al (Below.refl _ _) o)
theorem AnsL.keep {B E : Nat} {w w' : World} {g : Nat} {y : Sls} {s : St} {hs : List AV} {go : Option Addr} {gn : Nat} {gone : List Con} (h : AnsL B E w g y s hs go gn gone) (hk : ∀ k, B ≤ k → k < E → w'.heap[k]? = w.heap[k]?) (hg : w'.heap[g]? = w.heap[g]?) : AnsL B E w' g y s hs go gn gone := by
  refine ⟨hg.trans h.box, h.a.keep hk, h.c.kept (fun k hi => ?_), ?_, h.ap, h.ge⟩
  · obtain ⟨h1, h2, _⟩ := h.co.lies k hi
    exact hk k h1 h2
  · rcases h.co with e | ⟨b, M, e, h1, h2, h3, h4⟩
    · exact .inl e
    · exact .inr ⟨b, M, e, h1, h2, h3.of_block (hk b h1 h2), h4⟩
theorem AnsL.read {B E : Nat} {w : World} {g : Nat} {y : Sls} {s : St} {hs : List AV} {go : Option Addr} {gn : Nat} {gone : List Con} (h : AnsL B E w g y s hs go gn gone) : w.cell? ⟨g, 0, none⟩ = some (.slice y.qa y.ql y.qc) ∧ w.cell? ⟨g, 1, none⟩ = some (.int .i64 s.clock) ∧ w.cell? ⟨g, 2, none⟩ = some (.int .i64 s.epoch) ∧ w.cell? ⟨g, 3, none⟩ = some (.int .i64 s.next) ∧ w.cell? ⟨g, 4, none⟩ = some (.int .i64 s.serial) ∧ w.cell? ⟨g, 5, none⟩ = some (.slice y.aa y.al y.ac) ∧ w.cell? ⟨g, 6, none⟩ = some (.slice y.ma y.ml y.mc) ∧ w.cell? ⟨g, 7, none⟩ = some (.slice y.ca y.cl y.cc) :=
  ⟨h.box.at 0, h.box.at 1, h.box.at 2, h.box.at 3, h.box.at 4, h.box.at 5, h.box.at 6, h.box.at 7⟩
/-- the blocks of a state's lists are its own -/
structure OwnS (B E : Nat) (w : World) (x : Sls) (hs : List AV) : Prop where
  q : Own1 B E w 63 4 x.qa x.ql
  a : Own1 B E w 44 3 x.aa x.al
  m : Own1 B E w 61 4 x.ma x.ml
  c : Own1 B E w 119 5 x.ca x.cl
  k : ∀ v ∈ hs, Own1 B E w 121 5 v.ao v.len
theorem SAns.own {B E : Nat} {w : World} {x : Sls} {s : St} {hs : List AV} (h : SAns B E w x s hs) : OwnS B E w x hs := ⟨h.q, h.a, h.m, h.c, h.asks⟩
theorem OwnS.mks {B E : Nat} {w w' : World} {x : Sls} {hs : List AV} {S : Nat → Prop} (h : OwnS B E w x hs) (hm : Mks S w w') : OwnS B E w' x hs := ⟨h.q.mks hm, h.a.mks hm, h.m.mks hm, h.c.mks hm, fun v hv => (h.k v hv).mks hm⟩
/-- an answer whose state bears its marks -/
structure AnsH (B E : Nat) (w : World) (g : Nat) (y : Sls) (s : St) (hs : List AV) (go : Option Addr) (gn : Nat) : Prop where
  box : Blk w g (svc y s) 31
  m : SMk w y hs
  own : OwnS B E w y hs
  co : Own1 B E w 119 5 go gn
  ap : ∀ k, inR go gn k → ¬ inR y.ca y.cl k
  ge : E ≤ g
theorem AnsH.read {B E : Nat} {w : World} {g : Nat} {y : Sls} {s : St} {hs : List AV} {go : Option Addr} {gn : Nat} (h : AnsH B E w g y s hs go gn) : w.cell? ⟨g, 0, none⟩ = some (.slice y.qa y.ql y.qc) := h.box.at 0
/-- an answer that bears all its marks -/
structure AnsM (w : World) (g : Nat) (y : Sls) (s : St) (hs : List AV) (go : Option Addr) (gn : Nat) : Prop where
  box : Blk w g (svc y s) 31
  m : SMk w y hs
  c : ConRow w go gn (marksC (endS y hs) gn)
theorem AnsM.below {w w' : World} {g : Nat} {y : Sls} {s : St} {hs : List AV} {go : Option Addr} {gn : Nat} (h : AnsM w g y s hs go gn) (hb : Below w.heap.size w w') : AnsM w' g y s hs go gn := ⟨h.box.below hb, h.m.below hb, h.c.below hb⟩
theorem AnsM.al {w : World} {g : Nat} {y : Sls} {s : St} {hs : List AV} {go : Option Addr} {gn : Nat} (h : AnsM w g y s hs go gn) (o : Obj) : AnsM (w.alloc o) g y s hs go gn := h.below (below_al (Below.refl _ _) o)
theorem AnsM.read {w : World} {g : Nat} {y : Sls} {s : St} {hs : List AV} {go : Option Addr} {gn : Nat} (h : AnsM w g y s hs go gn) : w.cell? ⟨g, 0, none⟩ = some (.slice y.qa y.ql y.qc) ∧ w.cell? ⟨g, 1, none⟩ = some (.int .i64 s.clock) ∧ w.cell? ⟨g, 2, none⟩ = some (.int .i64 s.epoch) ∧ w.cell? ⟨g, 3, none⟩ = some (.int .i64 s.next) ∧ w.cell? ⟨g, 4, none⟩ = some (.int .i64 s.serial) ∧ w.cell? ⟨g, 5, none⟩ = some (.slice y.aa y.al y.ac) ∧ w.cell? ⟨g, 6, none⟩ = some (.slice y.ma y.ml y.mc) ∧ w.cell? ⟨g, 7, none⟩ = some (.slice y.ca y.cl y.cc) :=
  ⟨h.box.at 0, h.box.at 1, h.box.at 2, h.box.at 3, h.box.at 4, h.box.at 5, h.box.at 6, h.box.at 7⟩
/-- what lies outside of the blocks of an answer stands -/
theorem AnsL.off {B E B' E' : Nat} {w w' : World} {g : Nat} {y : Sls} {s : St} {hs : List AV} {go : Option Addr} {gn : Nat} {gone : List Con} {S : Nat → Prop} (h : AnsL B E w g y s hs go gn gone) (hm : Mks S w w') (hS : ∀ k, S k → B' ≤ k ∧ k < E') (h1 : g < B' ∨ E' ≤ B) (h2 : g < B' ∨ E' ≤ g) : AnsL B E w' g y s hs go gn gone :=
  h.keep (fun k hk1 hk2 => hm.block k (by have := h.box.lt; have := h.ge; omega) (fun hs => by have := hS k hs; have := h.ge; omega)) (hm.block g h.box.lt (fun hs => by have := hS g hs; omega))
end Go.Proofs.YtkpmocbfedgfhaaGreat

/-
  A whole slice appended in a region that draws; what is left of heads.
-/
namespace Go.Proofs.YtkpmocbfedgfhaaGreat
open Go.RowKit
set_option linter.unusedVariables false
set_option linter.unusedSimpArgs false
theorem step_append_own {P : Program} {w : World} {ops : Array Oper} {o : Oper} {a : Act} {K : Act → World → Prop} {Q : Exit → Act → World → Prop} {E : Prop} (hgd : o.guard = none) (s x : Operand) (t : TypeId)
    (ho : o.op = .call { callee := .builtin .append, args := #[s, x], argTypes := #[t, t] })
    (base : Nat) (e : TypeId) (i : TypeInfo) (z : Value) (size bytes : Nat) (ht : P.underlying t = some (.slice e)) (hi : P.info? e = some i) (hz : i.zero = some z)
    (hsize : i.size = size) (hby : i.bytes = bytes) (hzs : z.cells.size = size) (hsz : 0 < size)
    (v : Value) (n : Nat) (xs : List Value) (hs : a.eval s = v) (hown : w.ownsRow base e size v n xs)
    (ad : Addr) (m c : Nat) (news : List Value) (hx : a.eval x = .slice (some ad) m c) (hl : news.length = m * size) (hnews : ∀ j u, news[j]? = some u → w.cell? (ad.add j) = some u) (h1 : ∀ u ∈ news, u.oneCell' = true)
    (h63 : n + m ≤ maxLen) (hbytes : (n + m) * bytes ≤ 140737488355328) (hbase : base ≤ w.heap.size)
    (h : ∀ v' w', w'.ownsRow base e size v' (n + m) (xs ++ news) → w.grownBy w' v.ownBlock → (v' = .slice none 0 0 ↔ v = .slice none 0 0 ∧ m = 0) → K (a.put o.dst v') w') :
    if Region.wanted o (yielded ops a.tmps) = true then Oper.wp P o a w K Q else E := by
  have hw : Region.wanted o (yielded ops a.tmps) = true := by simp [Region.wanted, hgd]
  rw [if_pos hw]
  exact wp_append_own w s x t ho base e i z size bytes ht hi hz hsize hby hzs hsz v n xs hs hown ad m c news hx hl hnews h1 h63 hbytes hbase h
theorem owns_recount {w : World} {B sz n n' : Nat} {e : TypeId} {v : Value} {xs xs' : List Value} (h : w.ownsRow B e sz v n xs) (hn : n = n') (hx : xs = xs') : w.ownsRow B e sz v n' xs' := by subst hn hx; exact h
theorem owns_some {w : World} {B sz n : Nat} {e : TypeId} {v : Value} {xs : List Value} (h : w.ownsRow B e sz v n xs) (hv : v ≠ .slice none 0 0) : ∃ g cap, v = .slice (some ⟨g, 0, none⟩) n cap := by
  rcases h.2 with ⟨e, _⟩ | ⟨g, cap, cur, e, _⟩
  · exact absurd e hv
  · exact ⟨g, cap, e⟩
theorem heads_erase {w : World} : ∀ (hs : List AV) (l : List Appl) (j : Nat), Heads w hs l → Heads w (hs.eraseIdx j) (l.eraseIdx j)
  | [], [], j, _ => heads_nil w
  | [], a :: s, j, h => absurd h.1 (by simp)
  | v :: t, [], j, h => absurd h.1 (by simp)
  | v :: t, a :: s, 0, h => (heads_cons h).2
  | v :: t, a :: s, j + 1, h => heads_put (heads_cons h).1 (heads_erase t s j (heads_cons h).2)
theorem KHas.erase {B : Nat} {w : World} {hs : List AV} {l : List Appl} (h : KHas B w hs l) (j : Nat) : KHas B w (hs.eraseIdx j) (l.eraseIdx j) :=
  ⟨heads_erase hs l j h.heads, fun v hv => h.own v (List.mem_of_mem_eraseIdx hv), h.apart.sublist (List.eraseIdx_sublist _ _)⟩
end Go.Proofs.YtkpmocbfedgfhaaGreat
