/-
  Several texts of this claim in one: CopyN, MarkV, HeldK, OwnM, OwnC, OwnP (pack.py put them together); each says in its own remark what is proved.
-/
import Derived.Test.YtcplnodfcchdhaaGreatPackC
import Derived.Laws.CopyOwn
import Derived.Deep.RegionLaw
import Derived.Deep.AppendLies
import Derived.Test.YtcplnodfcchdhaaGreatPackA
import Derived.Test.YtcplnodfcchdhaaGreatStAll
import Derived.Laws.AppendOwn
import Derived.Lib.SliceRun
import Derived.Deep.RegionWith
/-
  The builtin copy over elements of several cells: as a law for the walk; rows of cells by what they begin with.
-/
namespace Go.Proofs.YtcplnodfcchdhaaGreat
open Go.RowKit
set_option linter.unusedVariables false
/-- block g is M cells of type t that may be written, of which these are the first -/
def Lay (w : World) (t : TypeId) (g M : Nat) (cs : List Value) : Prop := ∃ R : List Value, w.heap[g]? = some (.cells (cs ++ R).toArray t (0, 0)) ∧ (cs ++ R).length = M
theorem Lay.lt {w : World} {t : TypeId} {g M : Nat} {cs : List Value} (h : Lay w t g M cs) : g < w.heap.size := let ⟨_, h, _⟩ := h; lt_of_block h
theorem Lay.of_block {w w' : World} {t : TypeId} {g M : Nat} {cs : List Value} (h : Lay w t g M cs) (e : w'.heap[g]? = w.heap[g]?) : Lay w' t g M cs := let ⟨R, h1, h2⟩ := h; ⟨R, e.trans h1, h2⟩
theorem Lay.below {w w' : World} {t : TypeId} {g M : Nat} {cs : List Value} (h : Lay w t g M cs) (hb : Below w.heap.size w w') : Lay w' t g M cs := h.of_block (hb.block g h.lt)
theorem Lay.other {w : World} {t : TypeId} {g M : Nat} {cs : List Value} (h : Lay w t g M cs) (k j : Nat) (v : Value) (hk : g ≠ k) : Lay (w.setCell ⟨k, j, none⟩ v) t g M cs := h.of_block (heap_setCell_other w ⟨k, j, none⟩ g v hk)
theorem Lay.cel {w : World} {t : TypeId} {g M : Nat} {cs : List Value} (h : Lay w t g M cs) : Cel w t g M := let ⟨R, h1, h2⟩ := h; ⟨_, h1, by simpa using h2⟩
theorem Lay.cell {w : World} {t : TypeId} {g M : Nat} {cs : List Value} (h : Lay w t g M cs) {j : Nat} {u : Value} (hj : cs[j]? = some u) : w.cell? ⟨g, j, none⟩ = some u := by
  obtain ⟨R, h1, h2⟩ := h
  have hl : j < cs.length := (List.getElem?_eq_some_iff.1 hj).1
  simp [World.cell?, h1, List.getElem?_append_left hl, hj]
end Go.Proofs.YtcplnodfcchdhaaGreat

/-
  A state that is an answer and owns its memory: what the laws' own markState turns in it, and heldState finds again; walks over the dump.
-/
namespace Go.Proofs.YtcplnodfcchdhaaGreat
open Go.RowKit
set_option linter.unusedVariables false
/-- what is there of a list is no more than its room -/
structure SCap (x : Sls) : Prop where
  q : x.ql ≤ x.qc
  a : x.al ≤ x.ac
  m : x.ml ≤ x.mc
  c : x.cl ≤ x.cc
/-- each list's block has the room that the list says -/
def RmS (B E : Nat) (w : World) (x : Sls) (hs : List AV) : Prop := Own1 B E w 59 4 x.qa x.qc ∧ Own1 B E w 41 3 x.aa x.ac ∧ Own1 B E w 56 4 x.ma x.mc ∧ Own1 B E w 72 5 x.ca x.cc ∧ ∀ v ∈ hs, Own1 B E w 96 5 v.ao v.cap
theorem RmS.map {B E B' E' : Nat} {w w' : World} {x : Sls} {hs : List AV} (h : RmS B E w x hs) (f : ∀ {t : TypeId} {sz n : Nat} {ao : Option Addr}, Own1 B E w t sz ao n → Own1 B' E' w' t sz ao n) : RmS B' E' w' x hs := ⟨f h.1, f h.2.1, f h.2.2.1, f h.2.2.2.1, fun v hv => f (h.2.2.2.2 v hv)⟩
theorem RmS.below {B E : Nat} {w w' : World} {x : Sls} {hs : List AV} (h : RmS B E w x hs) (hb : Below w.heap.size w w') : RmS B E w' x hs := h.map (fun k => k.below hb)
theorem RmS.mono {B E B' E' : Nat} {w : World} {x : Sls} {hs : List AV} (h : RmS B E w x hs) (h1 : B' ≤ B) (h2 : E ≤ E') : RmS B' E' w x hs := h.map (fun k => k.mono h1 h2)
theorem RmS.mks {B E : Nat} {S : Nat → Prop} {w w' : World} {x : Sls} {hs : List AV} (h : RmS B E w x hs) (hm : Mks S w w') : RmS B E w' x hs := h.map (fun k => k.mks hm)
theorem RmS.sc {B E : Nat} {w : World} {x : Sls} {hs : List AV} (h : RmS B E w x hs) (k j : Nat) (v : Value) : RmS B E (w.setCell ⟨k, j, none⟩ v) x hs := h.map (fun o => o.sc k j v)
/-- a state whose lists lie in blocks of their own, from B on and below E -/
structure SAns (B E : Nat) (w : World) (x : Sls) (s : St) (hs : List AV) : Prop where
  row : SRow w x s
  q : Own1 B E w 59 4 x.qa x.ql
  a : Own1 B E w 41 3 x.aa x.al
  m : Own1 B E w 56 4 x.ma x.ml
  c : Own1 B E w 72 5 x.ca x.cl
  av : AVRow w x.aa x.al hs
  heads : Heads w hs s.apps
  asks : ∀ v ∈ hs, Own1 B E w 96 5 v.ao v.len
  apart : hs.Pairwise Apart
  cap : SCap x
  rm : RmS B E w x hs
theorem Heads.below {w w' : World} {hs : List AV} {l : List Appl} (h : Heads w hs l) (hb : Below w.heap.size w w') : Heads w' hs l := ⟨h.1, fun i h1 h2 => let ⟨a, b, c, d⟩ := h.2 i h1 h2; ⟨a, b, c.below hb, d⟩⟩
theorem SAns.below {B E : Nat} {w w' : World} {x : Sls} {s : St} {hs : List AV} (h : SAns B E w x s hs) (hb : Below w.heap.size w w') : SAns B E w' x s hs :=
  ⟨h.row.below hb, h.q.below hb, h.a.below hb, h.m.below hb, h.c.below hb, h.av.below hb, h.heads.below hb, fun v hv => (h.asks v hv).below hb, h.apart, h.cap, h.rm.below hb⟩
theorem SAns.mono {B E B' E' : Nat} {w : World} {x : Sls} {s : St} {hs : List AV} (h : SAns B E w x s hs) (h1 : B' ≤ B) (h2 : E ≤ E') : SAns B' E' w x s hs :=
  ⟨h.row, h.q.mono h1 h2, h.a.mono h1 h2, h.m.mono h1 h2, h.c.mono h1 h2, h.av, h.heads, fun v hv => (h.asks v hv).mono h1 h2, h.apart, h.cap, h.rm.mono h1 h2⟩
/-- what is turned lies outside of it -/
theorem SAns.mks {B E : Nat} {S : Nat → Prop} {w w' : World} {x : Sls} {s : St} {hs : List AV} (h : SAns B E w x s hs) (hm : Mks S w w') (hS : ∀ k, S k → k < B ∨ E ≤ k) : SAns B E w' x s hs := by
  have key : ∀ {t : TypeId} {sz n : Nat} {ao : Option Addr}, Own1 B E w t sz ao n → ∀ k, inR ao n k → ¬ S k := fun ho k hk hs => by
    obtain ⟨h1, h2, _⟩ := ho.lies k hk
    have := hS k hs
    omega
  have hrow : Heads w' hs s.apps := ⟨h.heads.1, fun i h1 h2 => by
    obtain ⟨a, b, c, d⟩ := h.heads.2 i h1 h2
    exact ⟨a, b, c.mks hm (key (h.asks _ (List.getElem_mem h1))), d⟩⟩
  have hav := h.av.mks hm (key h.a)
  refine ⟨⟨h.row.1.mks hm (key h.q), ?_, h.row.2.2.1.mks hm (key h.m), h.row.2.2.2.mks hm (key h.c)⟩, h.q.mks hm, h.a.mks hm, h.m.mks hm, h.c.mks hm, hav, hrow, fun v hv => (h.asks v hv).mks hm, h.apart, h.cap, h.rm.mks hm⟩
  refine ⟨h.row.2.1.1, ?_⟩
  rcases hav.2 with e | ⟨b, off, e, hh⟩
  · exact .inl e
  · refine .inr ⟨b, off, e, fun i hi => ?_⟩
    have hi' : i < hs.length := by rw [h.heads.1]; exact hi
    obtain ⟨a1, a2, a3, a4⟩ := hrow.2 i hi' hi
    obtain ⟨c1, c2, c3⟩ := hh i hi'
    rw [a1] at c1
    rw [a2] at c2
    exact ⟨hs[i].ao, hs[i].len, hs[i].cap, c1, c2, c3, a3, a4⟩
/-- a state that bears its marks -/
structure SMk (w : World) (x : Sls) (hs : List AV) : Prop where
  q : QRow w x.qa x.ql (marksQ x.ql)
  a : AVRow w x.aa x.al (hsM (1 + 4 * x.ql) hs)
  k : AsksM w (1 + 4 * x.ql) hs
  m : MacRow w x.ma x.ml (marksM (endM (1 + 4 * x.ql) hs) x.ml)
  c : ConRow w x.ca x.cl (marksC (endM (1 + 4 * x.ql) hs + 4 * x.ml) x.cl)
  z : x.ql = 0 ∨ ∃ g, x.qa = some ⟨g, 0, none⟩
theorem SMk.below {w w' : World} {x : Sls} {hs : List AV} (h : SMk w x hs) (hb : Below w.heap.size w w') : SMk w' x hs := ⟨h.q.below hb, h.a.below hb, AsksM.below hb _ _ h.k, h.m.below hb, h.c.below hb, h.z⟩
structure SLim (x : Sls) (hs : List AV) : Prop where
  q : x.ql ≤ 1048576
  a : x.al ≤ 1048576
  m : x.ml ≤ 1048576
  c : x.cl ≤ 1048576
  k : ∀ v ∈ hs, v.len ≤ 1048576
  n : hs.length = x.al
theorem SLim.e {x : Sls} {hs : List AV} (h : SLim x hs) : 1 + 4 * x.ql ≤ endM (1 + 4 * x.ql) hs ∧ endM (1 + 4 * x.ql) hs ≤ 10000000000000 := by
  have h1 := endM_ge hs (1 + 4 * x.ql)
  have h2 := endM_le hs (1 + 4 * x.ql) 1048576 h.k
  have h3 := h.q
  have h4 : hs.length * (2 + 5 * 1048576) ≤ 1048576 * (2 + 5 * 1048576) := Nat.mul_le_mul_right _ (by have := h.n; have := h.a; omega)
  omega

end Go.Proofs.YtcplnodfcchdhaaGreat

/-
  Words on worlds that calls and stores behind them keep; all that was there stands.
-/
namespace Go.Proofs.YtcplnodfcchdhaaGreat
open Go.RowKit
set_option linter.unusedVariables false
/-- what a word on worlds bears -/
structure Holds (S : World → Prop) (w0 : World) (n : Nat) : Prop where
  call : ∀ {wx wy : World}, S wx → Below wx.heap.size wx wy → S wy
  set : ∀ {wx : World} (k j : Nat) (v : Value), S wx → n ≤ k → S (wx.setCell ⟨k, j, none⟩ v)
  size : ∀ {wx : World}, S wx → n ≤ wx.heap.size
  below : ∀ {wx : World}, S wx → Below w0.heap.size w0 wx
theorem Holds.drew {S : World → Prop} {w0 : World} {n : Nat} (h : Holds S w0 n) {wx : World} (hs : S wx) : S wx.drew := h.call hs (Below.refl _ _).drew
theorem Holds.al {S : World → Prop} {w0 : World} {n : Nat} (h : Holds S w0 n) {wx : World} (hs : S wx) (o : Obj) : S (wx.alloc o) := h.call hs (below_al (Below.refl _ _) o)
theorem Holds.set2 {S : World → Prop} {w0 : World} {n : Nat} (h : Holds S w0 n) {wx : World} (hs : S wx) (k : Nat) (a b : Value) (hk : n ≤ k) : S ((wx.setCell ⟨k, 0, none⟩ a).setCell ⟨k, 1, none⟩ b) := h.set k 1 b (h.set k 0 a hs hk) hk
/-- all that was there stands -/
def Kp (w1 wx : World) : Prop := Below w1.heap.size w1 wx
theorem kp_holds (w1 : World) : Holds (Kp w1) w1 w1.heap.size where
  call := fun h hb => below_on h hb
  set := fun k j v h hk => below_sc h _ _ _ hk
  size := fun h => h.size
  below := fun h => h
theorem Kp.cell {w1 wx : World} (h : Kp w1 wx) {b j : Nat} {v : Value} (hc : w1.cell? ⟨b, j, none⟩ = some v) : wx.cell? ⟨b, j, none⟩ = some v := (Below.cell h (p := ⟨b, j, none⟩) (cell_lt hc)).trans hc
theorem Kp.new (w1 : World) : Kp w1 w1 := Below.refl _ _
end Go.Proofs.YtcplnodfcchdhaaGreat

/-
  Lists of machines that own their memory; the library's Clone of them (mkown.py wrote this); walks over the dump.
-/
namespace Go.Proofs.YtcplnodfcchdhaaGreat
open Go.RowKit
set_option linter.unusedVariables false
abbrev mcell (q : Mac) : List Value := [.string (bs q.name), .int .i64 q.mem, .int .i64 q.cpu, .int .i64 q.seen]
def mcells : List Mac → List Value
  | [] => []
  | q :: t => mcell q ++ mcells t
theorem mcells_app (a : List Mac) (q : Mac) : mcells (a ++ [q]) = mcells a ++ mcell q := by
  induction a with
  | nil => rfl
  | cons x t ih => rw [List.cons_append, mcells, mcells, ih, List.append_assoc]
theorem mcells_len : ∀ l : List Mac, (mcells l).length = l.length * 4
  | [] => rfl
  | q :: t => by rw [mcells, List.length_append, mcells_len t]; simp; omega
theorem mcells_at : ∀ (l : List Mac) (i : Nat) (h : i < l.length), (mcells l)[i * 4]? = some (.string (bs l[i].name)) ∧ (mcells l)[i * 4 + 1]? = some (.int .i64 l[i].mem) ∧ (mcells l)[i * 4 + 2]? = some (.int .i64 l[i].cpu) ∧ (mcells l)[i * 4 + 3]? = some (.int .i64 l[i].seen)
  | q :: t, 0, _ => ⟨rfl, rfl, rfl, rfl⟩
  | q :: t, i + 1, h => by
    have e := mcells_at t i (by simpa using h)
    have k : ∀ j, (mcells (q :: t))[(i + 1) * 4 + j]? = (mcells t)[i * 4 + j]? := fun j => by
      rw [mcells, show (i + 1) * 4 + j = (mcell q).length + (i * 4 + j) by simp; omega, List.getElem?_append_right (by omega)]
      congr 1
      omega
    have k0 := k 0
    simp only [Nat.add_zero] at k0
    rw [k0, k 1, k 2, k 3]
    simpa using e
theorem mcells_row {w : World} {b off len : Nat} {l : List Mac} (h : MacRow w (some ⟨b, off, none⟩) len l) : ∀ j u, (mcells l)[j]? = some u → w.cell? ⟨b, off + j, none⟩ = some u := fun j u hj => by
  have hjl : j < l.length * 4 := by rw [← mcells_len]; exact (List.getElem?_eq_some_iff.1 hj).1
  obtain ⟨h1, h2⟩ := h
  rcases h2 with h2 | ⟨b', off', e, h4⟩
  · omega
  · cases e
    have hi : j / 4 < l.length := by omega
    obtain ⟨a0, a1, a2, a3⟩ := mcells_at l (j / 4) hi
    obtain ⟨c0, c1, c2, c3⟩ := h4 (j / 4) hi
    rcases (show j % 4 = 0 ∨ j % 4 = 1 ∨ j % 4 = 2 ∨ j % 4 = 3 by omega) with e | e | e | e
    · rw [show j = j / 4 * 4 by omega] at hj ⊢; rw [a0] at hj; cases hj; exact c0
    · rw [show j = j / 4 * 4 + 1 by omega] at hj ⊢; rw [a1] at hj; cases hj; rw [← Nat.add_assoc]; exact c1
    · rw [show j = j / 4 * 4 + 2 by omega] at hj ⊢; rw [a2] at hj; cases hj; rw [← Nat.add_assoc]; exact c2
    · rw [show j = j / 4 * 4 + 3 by omega] at hj ⊢; rw [a3] at hj; cases hj; rw [← Nat.add_assoc]; exact c3
theorem Tryz.infoMachine : (Tryz.prog.info? 56).map (fun i => (i.zero, i.size, i.bytes)) = some (some (.agg #[.string ByteArray.empty, .int .i64 0, .int .i64 0, .int .i64 0]), 4, 40) := by kernel_rfl

end Go.Proofs.YtcplnodfcchdhaaGreat

/-
  Lists of containers that own their memory; the library's Clone of them (mkown.py wrote this); walks over the dump.
-/
namespace Go.Proofs.YtcplnodfcchdhaaGreat
open Go.RowKit
set_option linter.unusedVariables false
abbrev ccell (q : Con) : List Value := [.int .i64 q.id, .int .i64 q.app, .string (bs q.node), .int .i64 q.mem, .int .i64 q.cpu]
def ccells : List Con → List Value
  | [] => []
  | q :: t => ccell q ++ ccells t
theorem ccells_app (a : List Con) (q : Con) : ccells (a ++ [q]) = ccells a ++ ccell q := by
  induction a with
  | nil => rfl
  | cons x t ih => rw [List.cons_append, ccells, ccells, ih, List.append_assoc]
theorem ccells_len : ∀ l : List Con, (ccells l).length = l.length * 5
  | [] => rfl
  | q :: t => by rw [ccells, List.length_append, ccells_len t]; simp; omega
theorem ccells_at : ∀ (l : List Con) (i : Nat) (h : i < l.length), (ccells l)[i * 5]? = some (.int .i64 l[i].id) ∧ (ccells l)[i * 5 + 1]? = some (.int .i64 l[i].app) ∧ (ccells l)[i * 5 + 2]? = some (.string (bs l[i].node)) ∧ (ccells l)[i * 5 + 3]? = some (.int .i64 l[i].mem) ∧ (ccells l)[i * 5 + 4]? = some (.int .i64 l[i].cpu)
  | q :: t, 0, _ => ⟨rfl, rfl, rfl, rfl, rfl⟩
  | q :: t, i + 1, h => by
    have e := ccells_at t i (by simpa using h)
    have k : ∀ j, (ccells (q :: t))[(i + 1) * 5 + j]? = (ccells t)[i * 5 + j]? := fun j => by
      rw [ccells, show (i + 1) * 5 + j = (ccell q).length + (i * 5 + j) by simp; omega, List.getElem?_append_right (by omega)]
      congr 1
      omega
    have k0 := k 0
    simp only [Nat.add_zero] at k0
    rw [k0, k 1, k 2, k 3, k 4]
    simpa using e
theorem ccells_row {w : World} {b off len : Nat} {l : List Con} (h : ConRow w (some ⟨b, off, none⟩) len l) : ∀ j u, (ccells l)[j]? = some u → w.cell? ⟨b, off + j, none⟩ = some u := fun j u hj => by
  have hjl : j < l.length * 5 := by rw [← ccells_len]; exact (List.getElem?_eq_some_iff.1 hj).1
  obtain ⟨h1, h2⟩ := h
  rcases h2 with h2 | ⟨b', off', e, h4⟩
  · omega
  · cases e
    have hi : j / 5 < l.length := by omega
    obtain ⟨a0, a1, a2, a3, a4⟩ := ccells_at l (j / 5) hi
    obtain ⟨c0, c1, c2, c3, c4⟩ := h4 (j / 5) hi
    rcases (show j % 5 = 0 ∨ j % 5 = 1 ∨ j % 5 = 2 ∨ j % 5 = 3 ∨ j % 5 = 4 by omega) with e | e | e | e | e
    · rw [show j = j / 5 * 5 by omega] at hj ⊢; rw [a0] at hj; cases hj; exact c0
    · rw [show j = j / 5 * 5 + 1 by omega] at hj ⊢; rw [a1] at hj; cases hj; rw [← Nat.add_assoc]; exact c1
    · rw [show j = j / 5 * 5 + 2 by omega] at hj ⊢; rw [a2] at hj; cases hj; rw [← Nat.add_assoc]; exact c2
    · rw [show j = j / 5 * 5 + 3 by omega] at hj ⊢; rw [a3] at hj; cases hj; rw [← Nat.add_assoc]; exact c3
    · rw [show j = j / 5 * 5 + 4 by omega] at hj ⊢; rw [a4] at hj; cases hj; rw [← Nat.add_assoc]; exact c4
theorem Tryz.infoCont : (Tryz.prog.info? 72).map (fun i => (i.zero, i.size, i.bytes)) = some (some (.agg #[.int .i64 0, .int .i64 0, .string ByteArray.empty, .int .i64 0, .int .i64 0]), 5, 48) := by kernel_rfl

end Go.Proofs.YtcplnodfcchdhaaGreat

/-
  Lists of applications, by their heads that own their memory; the library's Clone of them (mkown.py wrote this); walks over the dump.
-/
namespace Go.Proofs.YtcplnodfcchdhaaGreat
open Go.RowKit
set_option linter.unusedVariables false
abbrev pcell (q : AV) : List Value := [.int .i64 q.id, .string (bs q.queue), .slice q.ao q.len q.cap]
def pcells : List AV → List Value
  | [] => []
  | q :: t => pcell q ++ pcells t
theorem pcells_app (a : List AV) (q : AV) : pcells (a ++ [q]) = pcells a ++ pcell q := by
  induction a with
  | nil => rfl
  | cons x t ih => rw [List.cons_append, pcells, pcells, ih, List.append_assoc]
theorem pcells_len : ∀ l : List AV, (pcells l).length = l.length * 3
  | [] => rfl
  | q :: t => by rw [pcells, List.length_append, pcells_len t]; simp; omega
theorem pcells_at : ∀ (l : List AV) (i : Nat) (h : i < l.length), (pcells l)[i * 3]? = some (.int .i64 l[i].id) ∧ (pcells l)[i * 3 + 1]? = some (.string (bs l[i].queue)) ∧ (pcells l)[i * 3 + 2]? = some (.slice l[i].ao l[i].len l[i].cap)
  | q :: t, 0, _ => ⟨rfl, rfl, rfl⟩
  | q :: t, i + 1, h => by
    have e := pcells_at t i (by simpa using h)
    have k : ∀ j, (pcells (q :: t))[(i + 1) * 3 + j]? = (pcells t)[i * 3 + j]? := fun j => by
      rw [pcells, show (i + 1) * 3 + j = (pcell q).length + (i * 3 + j) by simp; omega, List.getElem?_append_right (by omega)]
      congr 1
      omega
    have k0 := k 0
    simp only [Nat.add_zero] at k0
    rw [k0, k 1, k 2]
    simpa using e
theorem pcells_row {w : World} {b off len : Nat} {l : List AV} (h : AVRow w (some ⟨b, off, none⟩) len l) : ∀ j u, (pcells l)[j]? = some u → w.cell? ⟨b, off + j, none⟩ = some u := fun j u hj => by
  have hjl : j < l.length * 3 := by rw [← pcells_len]; exact (List.getElem?_eq_some_iff.1 hj).1
  obtain ⟨h1, h2⟩ := h
  rcases h2 with h2 | ⟨b', off', e, h4⟩
  · omega
  · cases e
    have hi : j / 3 < l.length := by omega
    obtain ⟨a0, a1, a2⟩ := pcells_at l (j / 3) hi
    obtain ⟨c0, c1, c2⟩ := h4 (j / 3) hi
    rcases (show j % 3 = 0 ∨ j % 3 = 1 ∨ j % 3 = 2 by omega) with e | e | e
    · rw [show j = j / 3 * 3 by omega] at hj ⊢; rw [a0] at hj; cases hj; exact c0
    · rw [show j = j / 3 * 3 + 1 by omega] at hj ⊢; rw [a1] at hj; cases hj; rw [← Nat.add_assoc]; exact c1
    · rw [show j = j / 3 * 3 + 2 by omega] at hj ⊢; rw [a2] at hj; cases hj; rw [← Nat.add_assoc]; exact c2
theorem Tryz.infoApp : (Tryz.prog.info? 41).map (fun i => (i.zero, i.size, i.bytes)) = some (some (.agg #[.int .i64 0, .string ByteArray.empty, .slice none 0 0]), 3, 48) := by kernel_rfl

end Go.Proofs.YtcplnodfcchdhaaGreat
