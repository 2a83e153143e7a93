/-
  Several texts of this claim in one: CopySt, PlaceM, TakB, AppR, StEnd, Draw (pack.py put them together); each says in its own remark what is proved.
-/
import Derived.Test.YtcplnodfcchdhaaGreatPackF
import Derived.Test.YtcplnodfcchdhaaGreatStAll
import Derived.Test.YtcplnodfcchdhaaGreatPackE
import Derived.Deep.CutBlock
import Derived.Deep.CutRange
import Derived.Test.YtcplnodfcchdhaaGreatPackA
import Derived.Test.YtcplnodfcchdhaaGreatPackD
import Derived.Test.YtcplnodfcchdhaaGreatPackC
import Derived.ArgAppend
import Derived.Deep.AppendLies
import Derived.Laws.Rows
import Derived.Laws.Tables
import Derived.BigQuiet
import Derived.Deep.QuietTactic
import Derived.Deep.RegionWith
import Derived.Laws.IdiomStrings
/-
  A state copied: what the program's copyOfState answers: the same state, in memory of its own; a walk over the dump.
-/
namespace Go.Proofs.YtcplnodfcchdhaaGreat
open Go.RowKit
set_option linter.unusedVariables false
theorem PHas.blk {B n k : Nat} {w : World} {ao : Option Addr} {l : List AV} (h : PHas B w ao n l) (hk : k < n) : ∃ g M, ao = some ⟨g, 0, none⟩ ∧ B ≤ g ∧ g < w.heap.size ∧ AVBlk w g M l := by
  obtain ⟨⟨h1, h2⟩, h3⟩ := h
  rcases h3 with e | ⟨g, M, rfl, hB, hE, hc, hn⟩
  · omega
  · rcases h2 with e | ⟨b, off, e, hh⟩
    · omega
    · cases e
      exact ⟨g, M, rfl, hB, hE, hc, by omega, fun i hi => by have := hh i hi; rwa [Nat.zero_add] at this⟩
/-- the asks of one head are laid anew -/
theorem AVBlk.asks {w : World} {g M i : Nat} {l : List AV} (h : AVBlk w g M l) (hi : i < l.length) (ao : Option Addr) (len cap : Nat) : AVBlk (w.setCell ⟨g, i * 3 + 2, none⟩ (.slice ao len cap)) g M (l.set i ⟨l[i].id, l[i].queue, ao, len, cap⟩) := by
  refine ⟨h.1.set _ _ _, by simpa using h.2.1, fun j hj => ?_⟩
  have hj' : j < l.length := by simpa using hj
  obtain ⟨a, b, c⟩ := h.2.2 j hj'
  by_cases e : i = j
  · subst e
    simp only [List.getElem_set_self]
    exact ⟨cellKeep a (by omega), cellKeep b (by omega), World.cell?_setCell_same _ ⟨g, i * 3 + 2, none⟩ _ c⟩
  · rw [List.getElem_set_ne e]
    exact ⟨cellKeep a (by omega), cellKeep b (by omega), cellKeep c (by omega)⟩
theorem AVBlk.has {B w g M n l} (h : AVBlk w g M l) (hB : B ≤ g) (hn : n = l.length) : PHas B w (some ⟨g, 0, none⟩) n l := by
  subst hn
  exact ⟨h.row, .inr ⟨g, M, rfl, hB, h.1.lt, h.1, h.2.1⟩⟩

/-- what a copy in the making has: its two boxes, its queues, its applications -/
structure CpSt (w : World) (arr : Array Value) (qo : Option Addr) (qs : List Q) (po : Option Addr) (n2 : Nat) (ns : List AV) (apps : List Appl) (wr : World) : Prop where
  r0 : Blk wr w.heap.size arr 29
  r1 : Blk wr (w.heap.size + 1) #[.slice none 0 0, .int .i64 0, .int .i64 0, .int .i64 0, .int .i64 0, .slice none 0 0, .slice none 0 0, .slice none 0 0] 29
  q : QHas (w.heap.size + 2) wr qo qs.length qs
  p : PHas (w.heap.size + 2) wr po n2 ns
  k : KHas (w.heap.size + 2) wr ns apps
  b : Below w.heap.size w wr
  z : w.heap.size + 2 ≤ wr.heap.size
theorem CpSt.below {w : World} {arr : Array Value} {qo : Option Addr} {qs : List Q} {po : Option Addr} {n2 : Nat} {ns : List AV} {apps : List Appl} {wr wy : World} (h : CpSt w arr qo qs po n2 ns apps wr) (hb : Below wr.heap.size wr wy) : CpSt w arr qo qs po n2 ns apps wy :=
  ⟨h.r0.below hb, h.r1.below hb, h.q.below hb, h.p.below hb, h.k.below hb, below_on h.b hb, Nat.le_trans h.z hb.size⟩
theorem CpSt.sc {w : World} {arr : Array Value} {qo : Option Addr} {qs : List Q} {po : Option Addr} {n2 : Nat} {ns : List AV} {apps : List Appl} {wr : World} (h : CpSt w arr qo qs po n2 ns apps wr) (j : Nat) (v : Value) : CpSt w (arr.setIfInBounds j v) qo qs po n2 ns apps (wr.setCell ⟨w.heap.size, j, none⟩ v) :=
  ⟨h.r0.set j v, h.r1.other _ _ _ (by omega), h.q.sc (by omega), h.p.sc (by omega), h.k.sc (.inl (by omega)), below_sc h.b _ _ _ (Nat.le_refl _), by rw [set_size]; exact h.z⟩
theorem MHas.blk {B n k : Nat} {w : World} {ao : Option Addr} {l : List Mac} (h : MHas B w ao n l) (hk : k < n) : ∃ g, ao = some ⟨g, 0, none⟩ ∧ B ≤ g ∧ g < w.heap.size ∧ (∀ j, w.frozen? ⟨g, j, none⟩ = false) ∧ ∀ i (hi : i < l.length), MacAt w g (i * 4) l[i] := by
  obtain ⟨⟨h1, h2⟩, h3⟩ := h
  rcases h3 with e | ⟨g, M, rfl, hB, hE, hc, hn⟩
  · omega
  · rcases h2 with e | ⟨b, off, e, hh⟩
    · omega
    · cases e
      exact ⟨g, rfl, hB, hE, fun j => hc.frozen j, fun i hi => by have := hh i hi; rwa [Nat.zero_add] at this⟩
end Go.Proofs.YtcplnodfcchdhaaGreat

/-
  Where a queue stands, in plain words; texts held against each other.
-/
namespace Go.Proofs.YtcplnodfcchdhaaGreat
open Go.RowKit
set_option linter.unusedVariables false
/-- the place of the first queue of that name, from place k on; -1 where there is none -/
def placeFrom (nm : List UInt8) : List Q → Nat → Int
  | [], _ => -1
  | q :: t, k => if q.name = nm then k else placeFrom nm t (k + 1)
def place (l : List Q) (nm : List UInt8) : Int := placeFrom nm l 0
theorem placeFrom_step {nm : List UInt8} {l : List Q} {k : Nat} (h : k < l.length) : placeFrom nm (l.drop k) k = if l[k].name = nm then (k : Int) else placeFrom nm (l.drop (k + 1)) (k + 1) := by
  rw [List.drop_eq_getElem_cons h, placeFrom]
theorem placeFrom_end {nm : List UInt8} {l : List Q} {k : Nat} (h : l.length ≤ k) : placeFrom nm (l.drop k) k = -1 := by
  rw [List.drop_of_length_le h]; rfl
end Go.Proofs.YtcplnodfcchdhaaGreat

/-
  Containers, an application, a machine taken out of a state that is the caller's own: what the program's takeConts, drop and lose leave; walks over the dump.
-/
namespace Go.Proofs.YtcplnodfcchdhaaGreat
open Go.RowKit
set_option linter.unusedVariables false
theorem QHas.base {B B' n : Nat} {w : World} {ao : Option Addr} {l : List Q} (h : QHas B w ao n l) (hb : B' ≤ B) : QHas B' w ao n l := ⟨h.1, h.2.mono hb (Nat.le_refl _)⟩
theorem MHas.base {B B' n : Nat} {w : World} {ao : Option Addr} {l : List Mac} (h : MHas B w ao n l) (hb : B' ≤ B) : MHas B' w ao n l := ⟨h.1, h.2.mono hb (Nat.le_refl _)⟩
theorem PHas.base {B B' n : Nat} {w : World} {ao : Option Addr} {l : List AV} (h : PHas B w ao n l) (hb : B' ≤ B) : PHas B' w ao n l := ⟨h.1, h.2.mono hb (Nat.le_refl _)⟩
theorem KHas.base {B B' : Nat} {w : World} {hs : List AV} {l : List Appl} (h : KHas B w hs l) (hb : B' ≤ B) : KHas B' w hs l := ⟨h.heads, fun v hv => (h.own v hv).mono hb (Nat.le_refl _), h.apart⟩

/-- what is left of the heads and of the applications -/
theorem heads_nil (w : World) : Heads w [] [] := ⟨rfl, fun i h => absurd h (by simp)⟩
theorem heads_cons {w : World} {v : AV} {t : List AV} {a : Appl} {s : List Appl} (h : Heads w (v :: t) (a :: s)) : (v.id = a.id ∧ v.queue = a.queue ∧ AskRow w v.ao v.len a.asks ∧ v.len ≤ v.cap) ∧ Heads w t s :=
  ⟨h.2 0 (by simp) (by simp), by simpa using h.1, fun i h1 h2 => by have := h.2 (i + 1) (by simpa using h1) (by simpa using h2); simpa using this⟩
theorem heads_put {w : World} {v : AV} {t : List AV} {a : Appl} {s : List Appl} (h : v.id = a.id ∧ v.queue = a.queue ∧ AskRow w v.ao v.len a.asks ∧ v.len ≤ v.cap) (h' : Heads w t s) : Heads w (v :: t) (a :: s) :=
  ⟨by simp [h'.1], fun i h1 h2 => by
    cases i with
    | zero => exact h
    | succ i => exact h'.2 i (by simpa using h1) (by simpa using h2)⟩
theorem heads_filter {w : World} (f : Int → Bool) : ∀ (hs : List AV) (l : List Appl), Heads w hs l → Heads w (hs.filter (fun v => f v.id)) (l.filter (fun a => f a.id))
  | [], [], _ => heads_nil w
  | [], a :: s, h => absurd h.1 (by simp)
  | v :: t, [], h => absurd h.1 (by simp)
  | v :: t, a :: s, h => by
    obtain ⟨h1, h2⟩ := heads_cons h
    have ih := heads_filter f t s h2
    cases hf : f a.id with
    | true => rw [List.filter_cons_of_pos (by simpa [h1.1] using hf), List.filter_cons_of_pos (by simpa using hf)]; exact heads_put h1 ih
    | false => rw [List.filter_cons_of_neg (by simp [h1.1, hf]), List.filter_cons_of_neg (by simp [hf])]; exact ih
theorem KHas.filter {B : Nat} {w : World} {hs : List AV} {l : List Appl} (h : KHas B w hs l) (f : Int → Bool) : KHas B w (hs.filter (fun v => f v.id)) (l.filter (fun a => f a.id)) :=
  ⟨heads_filter f hs l h.heads, fun v hv => h.own v (List.mem_filter.1 hv).1, h.apart.filter _⟩

/-- a state that owns its lists, from B on -/
structure SHas (B : Nat) (w : World) (x : Sls) (s : St) (hs : List AV) : Prop where
  q : QHas B w x.qa x.ql s.qs
  p : PHas B w x.aa x.al hs
  k : KHas B w hs s.apps
  m : MHas B w x.ma x.ml s.ms
  c : CHas B w x.ca x.cl s.cs
  cap : SCap x
  rm : RmS B w.heap.size w x hs
theorem SHas.below {B : Nat} {w w' : World} {x : Sls} {s : St} {hs : List AV} (h : SHas B w x s hs) (hb : Below w.heap.size w w') : SHas B w' x s hs := ⟨h.q.below hb, h.p.below hb, h.k.below hb, h.m.below hb, h.c.below hb, h.cap, (h.rm.below hb).mono (Nat.le_refl _) hb.size⟩
theorem SHas.base {B B' : Nat} {w : World} {x : Sls} {s : St} {hs : List AV} (h : SHas B w x s hs) (hb : B' ≤ B) : SHas B' w x s hs := ⟨h.q.base hb, h.p.base hb, h.k.base hb, h.m.base hb, h.c.base hb, h.cap, h.rm.mono hb (Nat.le_refl _)⟩
theorem SHas.ans {B : Nat} {w : World} {x : Sls} {s : St} {hs : List AV} (h : SHas B w x s hs) : SAns B w.heap.size w x s hs := sans_of h.q h.p h.k h.m h.c h.cap h.rm
theorem SAns.has {B E : Nat} {w : World} {x : Sls} {s : St} {hs : List AV} (h : SAns B E w x s hs) (hE : E ≤ w.heap.size) : SHas B w x s hs :=
  ⟨⟨h.row.1, h.q.mono (Nat.le_refl _) hE⟩, ⟨h.av, h.a.mono (Nat.le_refl _) hE⟩, ⟨h.heads, fun v hv => (h.asks v hv).mono (Nat.le_refl _) hE, h.apart⟩, ⟨h.row.2.2.1, h.m.mono (Nat.le_refl _) hE⟩, ⟨h.row.2.2.2, h.c.mono (Nat.le_refl _) hE⟩, h.cap, h.rm.mono (Nat.le_refl _) hE⟩
end Go.Proofs.YtcplnodfcchdhaaGreat

/-
  One more appended to a row that has the room that it says, or none: in place, or in a new block.
-/
namespace Go.Proofs.YtcplnodfcchdhaaGreat
open Go.RowKit
set_option linter.unusedVariables false
theorem lay_of {w : World} {t : TypeId} {g N : Nat} {cs : List Value} (hc : Cel w t g N) (h : ∀ j u, cs[j]? = some u → w.cell? ⟨g, j, none⟩ = some u) (hl : cs.length ≤ N) : Lay w t g N cs := by
  obtain ⟨arr, h1, h2⟩ := hc
  refine ⟨arr.toList.drop cs.length, ?_, by simp; omega⟩
  have e : cs ++ arr.toList.drop cs.length = arr.toList := by
    apply List.ext_getElem?
    intro j
    by_cases hj : j < cs.length
    · rw [List.getElem?_append_left hj]
      have h3 := h j cs[j] (List.getElem?_eq_getElem hj)
      simp [World.cell?, h1] at h3
      rw [List.getElem?_eq_getElem hj, Array.getElem?_toList]
      exact h3.symm
    · rw [List.getElem?_append_right (by omega), List.getElem?_drop]
      congr 1
      omega
  rw [e]
  simpa using h1
/-- many cells of the block are stored -/
theorem mks_cells {S : Nat → Prop} {g : Nat} (hg : S g) : ∀ (vs : List Value) (o : Nat) (a w : World), Mks S a w → Mks S a (w.setCells g o vs)
  | [], _, _, _, h => h
  | v :: r, o, a, w, h => mks_cells hg r (o + 1) a _ (h.sc g o v hg)
theorem Cel.isThere {w : World} {t : TypeId} {g N : Nat} (h : Cel w t g N) {j : Nat} (hj : j < N) : (w.cell? ⟨g, j, none⟩).isSome = true := by
  obtain ⟨arr, h1, h2⟩ := h
  have h3 : j < arr.size := by omega
  simp [World.cell?, h1, h3]
theorem below_none {w w' : World} (h : w.grownBy w' none) : Below w.heap.size w w' := (Below.refl _ w).grown h (Nat.le_refl _) (fun k e => by cases e)
/-- what stands behind the append: the row, its room, and that nothing else has turned -/
structure AppR (B : Nat) (w : World) (e : TypeId) (sz : Nat) (ao : Option Addr) (n : Nat) (all : List Value) (g cap : Nat) (w' : World) : Prop where
  cells : ∀ j u, all[j]? = some u → w'.cell? ⟨g, j, none⟩ = some u
  own : Own1 B w'.heap.size w' e sz (some ⟨g, 0, none⟩) cap
  cap : n ≤ cap
  mks : Mks (fun k => ∃ N, Cel w e k N ∧ B ≤ k) w w'
end Go.Proofs.YtcplnodfcchdhaaGreat

/-
  A state in its box, read and stored as a whole; rows of other types stand while a row of applications turns.
-/
namespace Go.Proofs.YtcplnodfcchdhaaGreat
open Go.RowKit
set_option linter.unusedVariables false
theorem own_mkc {B : Nat} {S : Nat → Prop} {w w' : World} {t t' : TypeId} {sz n : Nat} {ao : Option Addr} (h : Own1 B w.heap.size w t sz ao n) (hm : Mks S w w') (hS : ∀ k, S k → ∃ N, Cel w t' k N) (ht : t' ≠ t) : (∀ k, inR ao n k → ¬ S k) ∧ Own1 B w'.heap.size w' t sz ao n := by
  refine ⟨fun k hk e => ?_, (h.mks hm).mono (Nat.le_refl _) hm.size⟩
  obtain ⟨_, _, N', h2⟩ := h.lies k hk
  obtain ⟨N, h3⟩ := hS k e
  exact ht (h3.type h2)
section
variable {B : Nat} {S : Nat → Prop} {w w' : World}
theorem QHas.mkc {n : Nat} {ao : Option Addr} {l : List Q} (h : QHas B w ao n l) (hm : Mks S w w') (hS : ∀ k, S k → ∃ N, Cel w 41 k N) : QHas B w' ao n l :=
  ⟨h.1.mks hm (own_mkc h.2 hm hS (by decide)).1, (own_mkc h.2 hm hS (by decide)).2⟩
theorem MHas.mkc {n : Nat} {ao : Option Addr} {l : List Mac} (h : MHas B w ao n l) (hm : Mks S w w') (hS : ∀ k, S k → ∃ N, Cel w 41 k N) : MHas B w' ao n l :=
  ⟨h.1.mks hm (own_mkc h.2 hm hS (by decide)).1, (own_mkc h.2 hm hS (by decide)).2⟩
theorem CHas.mkc {n : Nat} {ao : Option Addr} {l : List Con} (h : CHas B w ao n l) (hm : Mks S w w') (hS : ∀ k, S k → ∃ N, Cel w 41 k N) : CHas B w' ao n l :=
  ⟨h.1.mks hm (own_mkc h.2 hm hS (by decide)).1, (own_mkc h.2 hm hS (by decide)).2⟩
theorem KHas.mkc {hs : List AV} {l : List Appl} (h : KHas B w hs l) (hm : Mks S w w') (hS : ∀ k, S k → ∃ N, Cel w 41 k N) : KHas B w' hs l :=
  ⟨⟨h.heads.1, fun i h1 h2 => let ⟨a, b', c, d⟩ := h.heads.2 i h1 h2; ⟨a, b', c.mks hm (own_mkc (h.own _ (List.getElem_mem h1)) hm hS (by decide)).1, d⟩⟩, fun v hv => (own_mkc (h.own v hv) hm hS (by decide)).2, h.apart⟩
end
theorem Own1.le {B E : Nat} {w : World} {t : TypeId} {sz n m : Nat} {ao : Option Addr} (h : Own1 B E w t sz ao n) (hm : m ≤ n) : Own1 B E w t sz ao m := by
  rcases h with h | ⟨g, M, h1, h2, h3, h4, h5⟩
  · exact .inl (by omega)
  · exact .inr ⟨g, M, h1, h2, h3, h4, by omega⟩
/-- one more application, without an ask, behind the others -/
theorem SHas.add {B g cap : Nat} {w w' : World} {x : Sls} {s : St} {hs : List AV} (h : SHas B w x s hs) (hB : B ≤ w.heap.size) (app nx : Int) (qu : List UInt8)
    (ha : AppR B w 41 3 x.aa (x.al + 1) (pcells hs ++ pcell ⟨app, qu, none, 0, 0⟩) g cap w') :
    SHas B w' ⟨x.qa, x.ql, x.qc, some ⟨g, 0, none⟩, x.al + 1, cap, x.ma, x.ml, x.mc, x.ca, x.cl, x.cc⟩ ⟨s.qs, s.clock, s.epoch, nx, s.serial, s.apps ++ [⟨app, qu, []⟩], s.ms, s.cs⟩ (hs ++ [⟨app, qu, none, 0, 0⟩]) := by
  have hS : ∀ k, (∃ N, Cel w 41 k N ∧ B ≤ k) → ∃ N, Cel w 41 k N := fun k hk => let ⟨N, a, _⟩ := hk; ⟨N, a⟩
  have hal : x.al = hs.length := h.p.1.1
  have hrm := (h.rm.mks ha.mks).mono (Nat.le_refl B) ha.mks.size
  have hk := h.k.mkc ha.mks hS
  refine ⟨h.q.mkc ha.mks hS, ⟨?_, ha.own.le ha.cap⟩, ?_, h.m.mkc ha.mks hS, h.c.mkc ha.mks hS, ⟨h.cap.q, ha.cap, h.cap.m, h.cap.c⟩, ⟨hrm.1, ha.own, hrm.2.2.1, hrm.2.2.2.1, fun v hv => ?_⟩⟩
  · rcases ha.own with e | ⟨g', M, e, _, _, hc, hM⟩
    · have := ha.cap; omega
    · cases e
      have hl : (pcells (hs ++ [⟨app, qu, none, 0, 0⟩])).length ≤ M * 3 := by
        rw [pcells_len, List.length_append]
        exact Nat.mul_le_mul_right _ (by have := ha.cap; simp; omega)
      have := (lay_of hc (cs := pcells (hs ++ [⟨app, qu, none, 0, 0⟩])) (by rw [pcells_app]; exact ha.cells) hl).rowP
      rw [List.length_append] at this
      rw [hal]
      exact this
  · exact hk.snoc (Below.refl _ _) (Nat.le_trans hB ha.mks.size) app qu none 0 [] (Nat.le_refl _) ⟨rfl, .inl rfl⟩ (.inl rfl)
  · rcases List.mem_append.1 hv with hv | hv
    · exact hrm.2.2.2.2 v hv
    · obtain rfl := List.mem_singleton.1 hv
      exact .inl rfl
end Go.Proofs.YtcplnodfcchdhaaGreat

/-
  What the laws' own draws do: a cursor over the code's bytes, and numbers and texts drawn by it, each within its bounds; walks over the dump.
-/
namespace Go.Proofs.YtcplnodfcchdhaaGreat
open Go.RowKit
set_option linter.unusedVariables false
theorem and_mask (x m : Int) (h0 : 0 ≤ m) (h1 : m < 9223372036854775808) : 0 ≤ bits .and .i64 x m ∧ bits .and .i64 x m ≤ m := by
  obtain ⟨M, rfl⟩ := Int.eq_ofNat_of_zero_le h0
  have hM : (BitVec.ofInt 64 (M : Int)).toNat = M := by rw [BitVec.toNat_ofInt]; omega
  have hle : (BitVec.ofInt 64 x &&& BitVec.ofInt 64 (M : Int)).toNat ≤ M := by
    rw [BitVec.toNat_and, hM]; exact Nat.and_le_right
  have e : bits .and .i64 x (M : Int) = IntKind.i64.wrap ((BitVec.ofInt 64 x &&& BitVec.ofInt 64 (M : Int)).toNat : Int) := rfl
  rw [e, IntKind.wrap_i64]
  omega

/-- the code's bytes can be read: nothing, or a row of bytes below block B -/
def Code (w : World) (B : Nat) (ao : Option Addr) (len : Nat) : Prop :=
  B ≤ w.heap.size ∧ len ≤ 1048576 ∧ (len = 0 ∨ ∃ b off, ∃ zs : Nat → Int, ao = some ⟨b, off, none⟩ ∧ b < B ∧ (∀ j, j < len → w.cell? ⟨b, off + j, none⟩ = some (.int .u8 (zs j))) ∧ ∀ j, 0 ≤ zs j ∧ zs j ≤ 255)
/-- block g is a cursor over the code -/
def Cur (w : World) (g : Nat) (ao : Option Addr) (len cap : Nat) : Prop :=
  ∃ (i : Nat) (h : Int), w.heap[g]? = some (.cells #[.slice ao len cap, .int .i64 (i : Int), .int .i64 h] 110 (0, 0)) ∧ i ≤ len
theorem Cur.lt {w : World} {g : Nat} {ao : Option Addr} {len cap : Nat} (h : Cur w g ao len cap) : g < w.heap.size := by
  obtain ⟨i, x, h, _⟩ := h
  exact lt_of_block h
theorem Code.below {w w' : World} {B B' : Nat} {ao : Option Addr} {len : Nat} (h : Code w B ao len) (hb : Below B' w w') (hB : B ≤ B') : Code w' B ao len := by
  refine ⟨Nat.le_trans h.1 hb.size, h.2.1, ?_⟩
  rcases h.2.2 with h0 | ⟨b, off, zs, h1, h2, h3, h4⟩
  · exact .inl h0
  · exact .inr ⟨b, off, zs, h1, h2, fun j hj => (hb.cell (p := ⟨b, off + j, none⟩) (by show b < B'; omega)).trans (h3 j hj), h4⟩
theorem Code.grown {w w' : World} {B g : Nat} {ao : Option Addr} {len : Nat} (h : Code w B ao len) (hg : w.grownBy w' (some g)) (hB : B ≤ g) : Code w' B ao len :=
  h.below (below_grownBy (Below.refl B w) hg h.1 hB) (Nat.le_refl _)
theorem Cur.below {w w' : World} {B g : Nat} {ao : Option Addr} {len cap : Nat} (h : Cur w g ao len cap) (hb : Below B w w') (hg : g < B) : Cur w' g ao len cap := by
  obtain ⟨i, x, h1, h2⟩ := h
  exact ⟨i, x, (hb.block g hg).trans h1, h2⟩

theorem cur_step1 {w : World} {g : Nat} {ao : Option Addr} {len cap i : Nat} {h : Int} (hg : w.heap[g]? = some (.cells #[.slice ao len cap, .int .i64 (i : Int), .int .i64 h] 110 (0, 0))) (H : Int) (n m : Nat) (hi : i ≤ len) :
    Cur (((w.setCell ⟨g, 2, none⟩ (.int .i64 H)).drewN n).drewN m) g ao len cap ∧ w.grownBy (((w.setCell ⟨g, 2, none⟩ (.int .i64 H)).drewN n).drewN m) (some g) := by
  refine ⟨⟨i, H, ?_, hi⟩, grownBy_drewN (grownBy_drewN (grownBy_set (grownBy_refl w _) 2 _) n) m⟩
  have := heap_setCell_same w g 2 _ _ (.int .i64 H) hg
  exact this.trans (by simp)
theorem cur_step2 {w : World} {g : Nat} {ao : Option Addr} {len cap i : Nat} {h : Int} (hg : w.heap[g]? = some (.cells #[.slice ao len cap, .int .i64 (i : Int), .int .i64 h] 110 (0, 0))) (H : Int) (n : Nat) (hi : i + 1 ≤ len) :
    Cur (((w.setCell ⟨g, 2, none⟩ (.int .i64 H)).drewN n).setCell ⟨g, 1, none⟩ (.int .i64 ((i : Int) + 1))) g ao len cap ∧ w.grownBy (((w.setCell ⟨g, 2, none⟩ (.int .i64 H)).drewN n).setCell ⟨g, 1, none⟩ (.int .i64 ((i : Int) + 1))) (some g) := by
  refine ⟨⟨i + 1, H, ?_, hi⟩, grownBy_set (grownBy_drewN (grownBy_set (grownBy_refl w _) 2 _) n) 1 _⟩
  have h1 := heap_setCell_same w g 2 _ _ (.int .i64 H) hg
  have h2 := heap_setCell_same ((w.setCell ⟨g, 2, none⟩ (.int .i64 H)).drewN n) g 1 _ _ (.int .i64 ((i : Int) + 1)) h1
  exact h2.trans (by simp)

set_option maxRecDepth 100000 in
set_option maxHeartbeats 2000000 in
theorem l01Byte_any (B g : Nat) (ao : Option Addr) (len cap : Nat) (w : World) (hcur : Cur w g ao len cap) (hcode : Code w B ao len) (hB : B ≤ g) :
    Calls Tryz.prog 85 #[.pointer (some ⟨g, 0, none⟩)] w fun e w' => ∃ x : Int, e = .returned (.int .i64 x) ∧ 0 ≤ x ∧ x ≤ 255 ∧ Cur w' g ao len cap ∧ w.grownBy w' (some g) := by
  obtain ⟨i, h, hg, hi⟩ := hcur
  have c0 : w.cell? ⟨g, 0, none⟩ = some (.slice ao len cap) := by simp [World.cell?, hg]
  have c1 : w.cell? ⟨g, 1, none⟩ = some (.int .i64 (i : Int)) := by simp [World.cell?, hg]
  have c2 : w.cell? ⟨g, 2, none⟩ = some (.int .i64 h) := by simp [World.cell?, hg]
  have f1 : w.frozen? ⟨g, 1, none⟩ = false := by simp [World.frozen?, hg]
  have f2 : w.frozen? ⟨g, 2, none⟩ = false := by simp [World.frozen?, hg]
  have HG := hide hg
  clear hg
  have hl := hcode.2.1
  by_cases hlt : i < len
  · rcases hcode.2.2 with h0 | ⟨b, off, zs, rfl, hbB, hz, hzs⟩
    · omega
    have hcz : ∀ v, (w.setCell ⟨g, 2, none⟩ v).cell? ⟨b, off + i, none⟩ = some (.int .u8 (zs i)) := fun v => (World.cell?_setCell_other _ ⟨g, 2, none⟩ ⟨b, off + i, none⟩ _ (by intro e; have := congrArg Addr.block e; simp at this; omega)).trans (hz i hlt)
    obtain ⟨hz0, hz1⟩ := hzs i
    have hlt2 : (i : Int) < (len : Int) := by omega
    clear hz hzs hcode
    go_enter Tryz.func85, Tryz.ntmps85
    go_wp2_with fail
    go_quiet (fail)
    go_wp2_with fail
    go_quiet (fail)
    go_wp2_with fail
    go_quiet (fail)
    go_wp2
    go_ret
    have hm := and_mask
    exact ⟨_, rfl, (hm _ 255 (by decide) (by decide)).1, (hm _ 255 (by decide) (by decide)).2, cur_step2 (unhide HG) _ _ (by omega)⟩
  · clear hcode
    go_enter Tryz.func85, Tryz.ntmps85
    go_wp2_with fail
    go_quiet (fail)
    go_wp2_with fail
    go_quiet (fail)
    go_wp2
    go_ret
    have hm := and_mask
    exact ⟨_, rfl, (hm _ 255 (by decide) (by decide)).1, (hm _ 255 (by decide) (by decide)).2, cur_step1 (unhide HG) _ _ _ hi⟩

set_option maxRecDepth 100000 in
set_option maxHeartbeats 1000000 in
theorem l01Below_any (B g : Nat) (ao : Option Addr) (len cap : Nat) (n : Int) (w : World) (hcur : Cur w g ao len cap) (hcode : Code w B ao len) (hB : B ≤ g) (hn0 : 0 < n) (hn1 : n ≤ 9223372036854775807) :
    Calls Tryz.prog 41 #[.pointer (some ⟨g, 0, none⟩), .int .i64 n] w fun e w' => ∃ x : Int, e = .returned (.int .i64 x) ∧ 0 ≤ x ∧ x < n ∧ Cur w' g ao len cap ∧ w.grownBy w' (some g) := by
  have HC := hide hcur
  have HK := hide hcode
  clear hcur hcode
  by_cases h256 : n ≤ 256
  · go_enter Tryz.func41, Tryz.ntmps41
    go_wp2_with fail
    refine (l01Byte_any B g ao len cap _ (unhide HC) (unhide HK) hB).mono ?_
    rintro e w1 ⟨x, rfl, hx0, hx1, hc1, hg1⟩
    have HC1 := hide hc1
    have HG1 := hide hg1
    clear hc1 hg1
    go_wp2
    go_ret
    exact ⟨_, rfl, Int.emod_nonneg _ (by omega), Int.emod_lt_of_pos _ hn0, unhide HC1, unhide HG1⟩
  · go_enter Tryz.func41, Tryz.ntmps41
    go_wp2_with fail
    refine (l01Byte_any B g ao len cap _ (unhide HC) (unhide HK) hB).mono ?_
    rintro e w1 ⟨x1, rfl, hx10, hx11, hc1, hg1⟩
    have HC1 := hide hc1
    have HK1 := hide ((unhide HK).grown hg1 hB)
    have HG1 := hide hg1
    clear hc1 hg1
    go_wp2_with fail
    refine (l01Byte_any B g ao len cap _ (unhide HC1) (unhide HK1) hB).mono ?_
    rintro e w2 ⟨x2, rfl, hx20, hx21, hc2, hg2⟩
    have HC2 := hide hc2
    have HK2 := hide ((unhide HK1).grown hg2 hB)
    have HG2 := hide (grownBy_trans (unhide HG1) hg2)
    clear hc2 hg2
    go_wp2_with fail
    refine (l01Byte_any B g ao len cap _ (unhide HC2) (unhide HK2) hB).mono ?_
    rintro e w3 ⟨x3, rfl, hx30, hx31, hc3, hg3⟩
    have HC3 := hide hc3
    have HK3 := hide ((unhide HK2).grown hg3 hB)
    have HG3 := hide (grownBy_trans (unhide HG2) hg3)
    clear hc3 hg3
    go_wp2_with fail
    refine (l01Byte_any B g ao len cap _ (unhide HC3) (unhide HK3) hB).mono ?_
    rintro e w4 ⟨x4, rfl, hx40, hx41, hc4, hg4⟩
    have HC4 := hide hc4
    have HG4 := hide (grownBy_trans (unhide HG3) hg4)
    clear hc4 hg4
    go_wp2
    go_ret
    exact ⟨_, rfl, Int.emod_nonneg _ (by omega), Int.emod_lt_of_pos _ hn0, unhide HC4, unhide HG4⟩
end Go.Proofs.YtcplnodfcchdhaaGreat
