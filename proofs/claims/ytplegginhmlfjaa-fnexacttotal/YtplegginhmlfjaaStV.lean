/-
  States: values, and what stands behind their slices.
-/
import Derived.Test.YtplegginhmlfjaaQBlk
import Derived.Test.YtplegginhmlfjaaAppV
import Derived.Test.YtplegginhmlfjaaMacV
import Derived.Test.YtplegginhmlfjaaConV
namespace Go.Proofs.Ytplegginhmlfjaa
open Go.RowKit
set_option linter.unusedVariables false

structure St where
  qs : List Q
  clock : Int
  epoch : Int
  next : Int
  serial : Int
  apps : List Appl
  ms : List Mac
  cs : List Con
deriving DecidableEq
instance : Inhabited St := ⟨⟨[], 0, 0, 0, 0, [], [], []⟩⟩
/-- where the four lists of a state stand -/
structure Sls where
  qa : Option Addr
  ql : Nat
  qc : Nat
  aa : Option Addr
  al : Nat
  ac : Nat
  ma : Option Addr
  ml : Nat
  mc : Nat
  ca : Option Addr
  cl : Nat
  cc : Nat
abbrev svc (x : Sls) (s : St) : Array Value := #[.slice x.qa x.ql x.qc, .int .i64 s.clock, .int .i64 s.epoch, .int .i64 s.next, .int .i64 s.serial, .slice x.aa x.al x.ac, .slice x.ma x.ml x.mc, .slice x.ca x.cl x.cc]
abbrev sv (x : Sls) (s : St) : Value := .agg (svc x s)
def SRow (w : World) (x : Sls) (s : St) : Prop := QRow w x.qa x.ql s.qs ∧ ApplRow w x.aa x.al s.apps ∧ MacRow w x.ma x.ml s.ms ∧ ConRow w x.ca x.cl s.cs
theorem SRow.below {w w' : World} {x : Sls} {s : St} (h : SRow w x s) (hb : Below w.heap.size w w') : SRow w' x s := ⟨h.1.below hb, h.2.1.below hb, h.2.2.1.below hb, h.2.2.2.below hb⟩
/-- the lists that a call made -/
def SOwn4 (w : World) (g1 g2 g3 g4 ql al ml cl : Nat) (s : St) : Prop :=
  QBlk w 72 g1 ql ql s.qs ∧ ApplBlk w 112 g2 al al s.apps ∧ MacBlk w 90 g3 ml ml s.ms ∧ ConBlk w 59 g4 cl cl s.cs
abbrev own4 (g1 g2 g3 g4 ql al ml cl : Nat) : Sls := ⟨some ⟨g1, 0, none⟩, ql, ql, some ⟨g2, 0, none⟩, al, al, some ⟨g3, 0, none⟩, ml, ml, some ⟨g4, 0, none⟩, cl, cl⟩
def SLen (x : Sls) (s : St) : Prop := x.ql = s.qs.length ∧ x.al = s.apps.length ∧ x.ml = s.ms.length ∧ x.cl = s.cs.length
theorem SRow.len {w : World} {x : Sls} {s : St} (h : SRow w x s) : SLen x s := ⟨h.1.1, h.2.1.1, h.2.2.1.1, h.2.2.2.1⟩
theorem SOwn4.below {w w' : World} {g1 g2 g3 g4 ql al ml cl : Nat} {s : St} (h : SOwn4 w g1 g2 g3 g4 ql al ml cl s) (hb : Below w.heap.size w w') : SOwn4 w' g1 g2 g3 g4 ql al ml cl s := ⟨h.1.below hb, h.2.1.below hb, h.2.2.1.below hb, h.2.2.2.below hb⟩
theorem SOwn4.row {w : World} {g1 g2 g3 g4 : Nat} {x : Sls} {s : St} (h : SOwn4 w g1 g2 g3 g4 x.ql x.al x.ml x.cl s) (hl : SLen x s) : SRow w (own4 g1 g2 g3 g4 x.ql x.al x.ml x.cl) s := ⟨h.1.row hl.1, h.2.1.row hl.2.1, h.2.2.1.row hl.2.2.1, h.2.2.2.row hl.2.2.2⟩
theorem QBlk.other {w : World} {t : TypeId} {g n k : Nat} {l : List Q} (h : QBlk w t g n k l) (b j : Nat) (v : Value) (hn : g ≠ b) : QBlk (w.setCell ⟨b, j, none⟩ v) t g n k l := by
  obtain ⟨arr, h1, h2⟩ := h
  exact ⟨arr, (heap_setCell_other w ⟨b, j, none⟩ g v hn).trans h1, h2⟩
theorem MacBlk.other {w : World} {t : TypeId} {g n k : Nat} {l : List Mac} (h : MacBlk w t g n k l) (b j : Nat) (v : Value) (hn : g ≠ b) : MacBlk (w.setCell ⟨b, j, none⟩ v) t g n k l := by
  obtain ⟨arr, h1, h2⟩ := h
  exact ⟨arr, (heap_setCell_other w ⟨b, j, none⟩ g v hn).trans h1, h2⟩
theorem ConBlk.other {w : World} {t : TypeId} {g n k : Nat} {l : List Con} (h : ConBlk w t g n k l) (b j : Nat) (v : Value) (hn : g ≠ b) : ConBlk (w.setCell ⟨b, j, none⟩ v) t g n k l := by
  obtain ⟨arr, h1, h2⟩ := h
  exact ⟨arr, (heap_setCell_other w ⟨b, j, none⟩ g v hn).trans h1, h2⟩
theorem ApplBlk.other {w : World} {t : TypeId} {g n k : Nat} {l : List Appl} (h : ApplBlk w t g n k l) (b j : Nat) (v : Value) (hn : b < g) : ApplBlk (w.setCell ⟨b, j, none⟩ v) t g n k l := by
  obtain ⟨arr, h1, h2, h3⟩ := h
  refine ⟨arr, (heap_setCell_other w ⟨b, j, none⟩ g v (show g ≠ b by omega)).trans h1, h2, fun i hi hk => ?_⟩
  obtain ⟨a, c, x, y, z, d, e⟩ := h3 i hi hk
  exact ⟨a, c, x, y, z, d, e.1.other b j v (fun b' off e' => by have := e.2.2 b' off e'; omega), e.2⟩
theorem SOwn4.other {w : World} {g1 g2 g3 g4 ql al ml cl : Nat} {s : St} (h : SOwn4 w g1 g2 g3 g4 ql al ml cl s) (b j : Nat) (v : Value) (h1 : b < g1) (h2 : b < g2) (h3 : b < g3) (h4 : b < g4) : SOwn4 (w.setCell ⟨b, j, none⟩ v) g1 g2 g3 g4 ql al ml cl s :=
  ⟨h.1.other _ _ _ (by omega), h.2.1.other _ _ _ h2, h.2.2.1.other _ _ _ (by omega), h.2.2.2.other _ _ _ (by omega)⟩
end Go.Proofs.Ytplegginhmlfjaa
