/-
  Several texts of this claim in one: OkM, NewLaw, NewHas, UsedOnI, FreeOnM, UsedOnS, UsedOnB, SubS, Held, FreeOnS, StoC (pack.py put them together); each says in its own remark what is proved.
-/
import Derived.Test.YtbkchepelhkjlaaGreatPackK
import Derived.Test.YtbkchepelhkjlaaGreatPackP
import Derived.Test.YtbkchepelhkjlaaGreatOkI
import Derived.Test.YtbkchepelhkjlaaGreatPackH
import Derived.Test.YtbkchepelhkjlaaGreatPackN
import Derived.Shelf.Abstract
import Derived.Test.YtbkchepelhkjlaaGreatMacAt
import Derived.Test.YtbkchepelhkjlaaGreatPackQ
import Derived.Test.YtbkchepelhkjlaaGreatStAll
import Derived.Test.YtbkchepelhkjlaaGreatPackJ
import Derived.Test.YtbkchepelhkjlaaGreatPackC
import Derived.Deep.RegionHeld3
import Derived.Deep.CutRange
import Derived.Test.YtbkchepelhkjlaaGreatPackA
import Derived.Laws.Tables
import Derived.Deep.MidRow
import Derived.Great.BuildSlice
/-
 A state is right: that the program's way and the model's way to ask are one; plain words.
-/
namespace Go.Proofs.YtbkchepelhkjlaaGreat
open Go.RowKit
set_option linter.unusedVariables false
/-- one amount behind the other taken away from what there is -/
def subsOk : Int → Int → List (Int × Int) → Bool
 | _, _, [] => true
 | x, y, r :: t => bothOk (-1) x y r.1 r.2 && subsOk (x + -1 * r.1) (y + -1 * r.2) t
theorem okSum : ∀ (l : List (Int × Int)) (x y : Int), resOk x y = true → resOk (sumFrom l x y).1 (sumFrom l x y).2.1 = true
 | [], x, y, h => h
 | r :: t, x, y, h => by
  rw [sumFrom]
  by_cases hb : bothOk 1 x y r.1 r.2 = true
  ·rw [if_pos hb]
   refine okSum t _ _ ?_
   simp only [bothOk, Bool.and_eq_true] at hb
   exact hb.2
  ·rw [if_neg hb]; decide
theorem sumFrom_each : ∀ (l : List (Int × Int)) (x y : Int), (sumFrom l x y).2.2 = true → ∀ r ∈ l, resOk r.1 r.2 = true
 | [], x, y, _, r, h => by simp at h
 | q :: t, x, y, h, r, hr => by
  rw [sumFrom] at h
  by_cases hb : bothOk 1 x y q.1 q.2 = true
  ·rw [if_pos hb] at h
   rcases List.mem_cons.1 hr with rfl | hr
   ·simp only [bothOk, Bool.and_eq_true] at hb; exact hb.1.2
   ·exact sumFrom_each t _ _ h r hr
  ·rw [if_neg hb] at h; cases h
theorem sumFrom_ge : ∀ (l : List (Int × Int)) (x y : Int), (sumFrom l x y).2.2 = true → x ≤ (sumFrom l x y).1 ∧ y ≤ (sumFrom l x y).2.1
 | [], x, y, _ => ⟨Int.le_refl _, Int.le_refl _⟩
 | r :: t, x, y, h => by
  rw [sumFrom] at h ⊢
  by_cases hb : bothOk 1 x y r.1 r.2 = true
  ·rw [if_pos hb] at h ⊢
   have := sumFrom_ge t _ _ h
   have hr : resOk r.1 r.2 = true := by simp only [bothOk, Bool.and_eq_true] at hb; exact hb.1.2
   have := resOk_bd hr
   omega
  ·rw [if_neg hb] at h; cases h
theorem subs_sum {X Y : Int} (hX : resOk X Y = true) : ∀ (l : List (Int × Int)) (x y : Int), resOk x y = true → x ≤ X → y ≤ Y → (subsOk (X + -1 * x) (Y + -1 * y) l = true ↔ (sumFrom l x y).2.2 = true ∧ (sumFrom l x y).1 ≤ X ∧ (sumFrom l x y).2.1 ≤ Y)
 | [], x, y, h, h1, h2 => by simp [subsOk, sumFrom, h1, h2]
 | r :: t, x, y, h, h1, h2 => by
  have bX := resOk_bd hX
  have bx := resOk_bd h
  rw [subsOk, sumFrom, Bool.and_eq_true]
  by_cases hs : bothOk (-1) (X + -1 * x) (Y + -1 * y) r.1 r.2 = true
  ·have hs' := hs
   simp only [bothOk, Bool.and_eq_true] at hs'
   have br := resOk_bd hs'.1.2
   have bs' := resOk_bd hs'.2
   have hr2 : resOk (x + 1 * r.1) (y + 1 * r.2) = true := by simp only [resOk, inB, Bool.and_eq_true, decide_eq_true_eq]; omega
   have hp : bothOk 1 x y r.1 r.2 = true := by simp only [bothOk, Bool.and_eq_true]; exact ⟨⟨h, hs'.1.2⟩, hr2⟩
   rw [if_pos hp]
   have ih := subs_sum hX t (x + 1 * r.1) (y + 1 * r.2) hr2 (by omega) (by omega)
   rw [← ih]
   have e1 : X + -1 * (x + 1 * r.1) = X + -1 * x + -1 * r.1 := by omega
   have e2 : Y + -1 * (y + 1 * r.2) = Y + -1 * y + -1 * r.2 := by omega
   rw [e1, e2]
   exact ⟨fun hh => hh.2, fun hh => ⟨hs, hh⟩⟩
  ·refine ⟨fun hh => absurd hh.1 hs, fun ⟨g1, g2, g3⟩ => absurd ?_ hs⟩
   by_cases hp : bothOk 1 x y r.1 r.2 = true
   ·rw [if_pos hp] at g1 g2 g3
    have ge := sumFrom_ge t _ _ g1
    have hp' := hp
    simp only [bothOk, Bool.and_eq_true] at hp'
    have br := resOk_bd hp'.1.2
    simp only [bothOk, Bool.and_eq_true]
    refine ⟨⟨?_, hp'.1.2⟩, ?_⟩ <;> simp only [resOk, inB, Bool.and_eq_true, decide_eq_true_eq] <;> omega
   ·rw [if_neg hp] at g1; cases g1
theorem hold_subs {cs : List Con} {m : Mac} (hr : resOk m.mem m.cpu = true) : holdM cs m = true ↔ subsOk m.mem m.cpu (usedL (fun q => decide (q.node = m.name)) cs) = true := by
 have h := subs_sum hr (usedL (fun q => decide (q.node = m.name)) cs) 0 0 (by decide) (resOk_bd hr).1 (resOk_bd hr).2.2.1
 rw [show m.mem + -1 * 0 = m.mem by omega, show m.cpu + -1 * 0 = m.cpu by omega] at h
 rw [h]
 simp only [holdM, hr, Bool.true_and, Bool.and_eq_true, sumR, within]
 refine ⟨fun ⟨a, b⟩ => ⟨a, of_decide_eq_true b.1.2, of_decide_eq_true b.2⟩, fun ⟨a, b, c⟩ => ⟨a, ⟨⟨⟨okSum _ 0 0 (by decide), trivial⟩, decide_eq_true b⟩, decide_eq_true c⟩⟩⟩

theorem leT_lt {a b : List UInt8} (h : leT a b = false) : Op.bytesLess (bs b).toList (bs a).toList = true := by
 simp only [leT, Bool.or_eq_false_iff] at h
 exact bl_tri _ _ h.1 (fun e => by rw [e] at h; simp at h)
theorem machs_above {ck : Int} : ∀ (l : List Mac) (last : List UInt8), machsFrom ck last l = true → ∀ m ∈ l, Op.bytesLess (bs last).toList (bs m.name).toList = true
 | [], _, _, m, h => by simp at h
 | q :: t, last, h, m, hm => by
  simp only [machsFrom, Bool.and_eq_true, Bool.not_eq_true'] at h
  have h1 := leT_lt h.1
  rcases List.mem_cons.1 hm with rfl | hm
  ·exact h1
  ·exact bl_trans _ _ _ h1 (machs_above t q.name h.2.2.2.2 m hm)
theorem machs_find {ck : Int} : ∀ (l : List Mac) (last : List UInt8), machsFrom ck last l = true → ∀ m ∈ l, findM m.name l = some m
 | [], _, _, m, h => by simp at h
 | q :: t, last, h, m, hm => by
  simp only [machsFrom, Bool.and_eq_true, Bool.not_eq_true'] at h
  rcases List.mem_cons.1 hm with rfl | hm
  ·simp [findM]
  ·have hab := machs_above t q.name h.2.2.2.2 m hm
   have hne : ¬ q.name = m.name := fun e => by rw [e, bl_irr] at hab; cases hab
   have := machs_find t q.name h.2.2.2.2 m hm
   simp only [findM] at this ⊢
   rw [List.find?_cons_of_neg (by simpa using hne)]
   exact this
theorem machsS_iff {ck : Int} {cs : List Con} : ∀ (l : List Mac) (last : List UInt8), machsS ck cs last l = true ↔ machsFrom ck last l = true ∧ ∀ m ∈ l, holdM cs m = true
 | [], _ => by simp [machsS, machsFrom]
 | q :: t, last => by
  simp only [machsS, machsFrom, Bool.and_eq_true, machsS_iff t q.name, List.mem_cons, forall_eq_or_imp]
  exact ⟨fun ⟨a, b, c, d, e, f, g⟩ => ⟨⟨a, b, c, d, f⟩, e, g⟩, fun ⟨⟨a, b, c, d, f⟩, e, g⟩ => ⟨a, b, c, d, e, f, g⟩⟩
theorem contsS_congr {apps : List Appl} {l l' : List Mac} (h : ∀ nm, (findM nm l').isSome = (findM nm l).isSome) : ∀ (cs : List Con) (last : Int), contsS apps l' last cs = contsS apps l last cs
 | [], _ => rfl
 | c :: t, last => by rw [contsS, contsS, h, contsS_congr h t]
theorem used_cons {nm : List UInt8} {c : Con} {t : List Con} : usedL (fun q => decide (q.node = nm)) (c :: t) = if c.node = nm then (c.mem, c.cpu) :: usedL (fun q => decide (q.node = nm)) t else usedL (fun q => decide (q.node = nm)) t := by
 by_cases h : c.node = nm
 ·simp [usedL, h]
 ·simp [usedL, h]
theorem conts_iff {apps : List Appl} : ∀ (cs : List Con) (l : List Mac) (last : Int), contsFrom apps l last cs = true ↔ contsS apps l last cs = true ∧ ∀ nm m, findM nm l = some m → subsOk m.mem m.cpu (usedL (fun q => decide (q.node = nm)) cs) = true
 | [], l, last => by simp [contsFrom, contsS, usedL, subsOk]
 | c :: t, l, last => by
  cases hf : findM c.node l with
  | none => simp [contsFrom, contsS, hf]
  | some m =>
   have hn := findM_name hf
   have ih := conts_iff (apps := apps) t (⟨m.name, m.mem + -1 * c.mem, m.cpu + -1 * c.cpu, m.seen⟩ :: l) c.id
   have hfind : ∀ nm, findM nm (⟨m.name, m.mem + -1 * c.mem, m.cpu + -1 * c.cpu, m.seen⟩ :: l) = if c.node = nm then some ⟨m.name, m.mem + -1 * c.mem, m.cpu + -1 * c.cpu, m.seen⟩ else findM nm l := fun nm => by
    by_cases e : c.node = nm
    ·rw [if_pos e]; simp [findM, hn, e]
    ·rw [if_neg e]; simp [findM, hn, e]
   have hsome : ∀ nm, (findM nm (⟨m.name, m.mem + -1 * c.mem, m.cpu + -1 * c.cpu, m.seen⟩ :: l)).isSome = (findM nm l).isSome := fun nm => by
    rw [hfind]
    by_cases e : c.node = nm
    ·rw [if_pos e, ← e, hf]
     rfl
    ·rw [if_neg e]
   rw [contsS_congr hsome] at ih
   simp only [contsFrom, contsS, hf, Option.isSome_some, Option.getD_some, Bool.true_and, Bool.and_eq_true, ih]
   constructor
   ·rintro ⟨a, b, c1, d, e, f, g⟩
    refine ⟨⟨a, b, d, c1, f⟩, fun nm m2 hm2 => ?_⟩
    rw [used_cons]
    by_cases en : c.node = nm
    ·rw [if_pos en]
     rw [← en, hf] at hm2
     cases hm2
     rw [subsOk, Bool.and_eq_true]
     exact ⟨e, g nm ⟨m.name, m.mem + -1 * c.mem, m.cpu + -1 * c.cpu, m.seen⟩ (by rw [hfind, if_pos en])⟩
    ·rw [if_neg en]
     exact g nm m2 (by rw [hfind, if_neg en]; exact hm2)
   ·rintro ⟨⟨a, b, d, c1, f⟩, g⟩
    have g0 := g c.node m hf
    rw [used_cons, if_pos rfl, subsOk, Bool.and_eq_true] at g0
    refine ⟨a, b, c1, d, g0.1, f, fun nm m2 hm2 => ?_⟩
    rw [hfind] at hm2
    by_cases en : c.node = nm
    ·rw [if_pos en] at hm2
     cases hm2
     rw [← en]
     exact g0.2
    ·rw [if_neg en] at hm2
     have := g nm m2 hm2
     rwa [used_cons, if_neg en] at this
theorem state_same (s : St) : stateOkI s = stateOkS s := by
 rw [Bool.eq_iff_iff]
 simp only [stateOkI, stateOkS, numsOk, machsOkV, machsOkS, contsOkV, Bool.and_eq_true, conts_iff, machsS_iff]
 have key : machsFrom s.clock [] s.ms = true → (sumR (capsOf s.ms)).2.2 = true → ((∀ nm m, findM nm s.ms = some m → subsOk m.mem m.cpu (usedL (fun q => decide (q.node = nm)) s.cs) = true) ↔ ∀ m ∈ s.ms, holdM s.cs m = true) := fun h1 h2 => by
  have hr : ∀ m ∈ s.ms, resOk m.mem m.cpu = true := fun m hm => sumFrom_each _ 0 0 h2 (m.mem, m.cpu) (by simp only [capsOf, List.mem_map]; exact ⟨m, hm, rfl⟩)
  constructor
  ·intro h m hm
   exact (hold_subs (hr m hm)).2 (h m.name m (machs_find _ _ h1 m hm))
  ·intro h nm m hf
   have hm : m ∈ s.ms := List.mem_of_find?_eq_some hf
   have hn := findM_name hf
   have := (hold_subs (hr m hm)).1 (h m hm)
   rwa [hn] at this
 constructor
 ·rintro ⟨a, ⟨b1, b2, b3, b4⟩, c, ⟨d1, d2, d3⟩, e1, e2, e3⟩
  exact ⟨a, b1, b2, b3, b4, c, ⟨⟨d2, (key d2 d3).1 e3⟩, d3, d1⟩, e1, e2⟩
 ·rintro ⟨a, b1, b2, b3, b4, c, ⟨⟨d2, hh⟩, d3, d1⟩, e1, e2⟩
  exact ⟨a, ⟨b1, b2, b3, b4⟩, c, ⟨d1, d2, d3⟩, e1, e2, (key d2 d3).2 hh⟩
def stateOkV (s : St) : Bool := stateOkS s
theorem specStateOk_any (x : Sls) (s : St) (w : World) (h : SRow w x s) (hf : FitSt s) :
  Calls Tryz.prog 25 #[sv x s] w fun e w' => e = .returned (.bool (stateOkV s)) ∧ Below w.heap.size w w' := stateOkS_any x s w h hf
theorem implStateOk_any (x : Sls) (s : St) (w : World) (h : SRow w x s) (hf : FitSt s) (hc : x.ql ≤ x.qc) (hw : WfSt s) :
  Calls Tryz.prog 24 #[sv x s] w fun e w' => e = .returned (.bool (stateOkV s)) ∧ Below w.heap.size w w' := by
 have := stateOkI_any x s w h hf hc hw
 rwa [state_same] at this
end Go.Proofs.YtbkchepelhkjlaaGreat

/-
 What StateNew answers, in one form for both answers; the laws' own marks on it.
-/
namespace Go.Proofs.YtbkchepelhkjlaaGreat
open Go.RowKit
set_option linter.unusedVariables false
def qlN (l : List Q) : List Q := if queuesOk l = true then l else []
def epN (l : List Q) : Int := if queuesOk l = true then 1 else 0
def nxN (l : List Q) : Int := if queuesOk l = true then 1001 else 0
theorem new_ok (l : List Q) : stateOkV (newSt l 1 1001 1) = queuesOk l := by
 have h1 : appsOkV (newSt l 1 1001 1) = true := rfl
 have h2 : machsOkS (newSt l 1 1001 1) = true := rfl
 simp only [stateOkV, stateOkS, h1, h2]
 rw [show (inB 0 0 1000000000 && (inB 1 1 1000000000 && (inB 1001 1 1000000000 && (inB 1 1 1000000000 && (true && (true && (decide (([] : List Con).length ≤ 150) && contsS [] [] 0 []))))))) = true from rfl, Bool.and_true]
/-- the answer, a state in a box to come, whose queues own their memory -/
theorem NewAns.one {w w' : World} {l : List Q} {e : Ending} (h : NewAns w l e w') : ∃ qo n c, e = .returned (.tuple #[.agg (svc (newX qo n c) (newSt (qlN l) (epN l) (nxN l) (epN l))), .bool (queuesOk l)]) ∧ n = (qlN l).length ∧ QOwn (w.heap.size + 1) w' (.slice qo n c) (qlN l) ∧ Below w.heap.size w w' := by
 obtain ⟨hb, ⟨ho, rfl⟩ | ⟨ho, v, rfl, hown⟩⟩ := h
 ·refine ⟨none, 0, 0, ?_, ?_, ?_, hb⟩
  ·simp [qlN, epN, nxN, ho]
  ·simp [qlN, ho]
  ·simp only [qlN, ho]; exact qown_nil _ _
 ·obtain ⟨qo, qc, rfl, _⟩ := qown_rowx hown
  refine ⟨qo, l.length, qc, ?_, ?_, ?_, hb⟩
  ·simp [qlN, epN, nxN, ho]
  ·simp [qlN, ho]
  ·simp only [qlN, ho]; exact hown
/-- a list of queues that bears its marks -/
def Marked (w : World) (qo : Option Addr) (n : Nat) : Prop := (n = 0 ∨ ∃ g, qo = some ⟨g, 0, none⟩) ∧ QRow w qo n (marksQ n)
theorem Marked.below {w w' : World} {qo : Option Addr} {n : Nat} (h : Marked w qo n) (hb : Below w.heap.size w w') : Marked w' qo n := ⟨h.1, h.2.below hb⟩
end Go.Proofs.YtbkchepelhkjlaaGreat

/-
 A new state owns its lists.
-/
namespace Go.Proofs.YtbkchepelhkjlaaGreat
open Go.RowKit
theorem new_has {B n c : Nat} {w : World} {qo : Option Addr} {l : List Q} (ep nx se : Int) (h : QOwn B w (.slice qo n c) l) (hn : n = l.length) : SHas B w (newX qo n c) (newSt l ep nx se) [] := by
 obtain ⟨ao, cap, e, hc, hh⟩ := QOwn.has h
 cases e
 exact ⟨hh, ⟨⟨rfl, .inl rfl⟩, .inl rfl⟩, KHas.nil _ _, ⟨⟨rfl, .inl rfl⟩, .inl rfl⟩, ⟨⟨rfl, .inl rfl⟩, .inl rfl⟩, ⟨hc, Nat.le_refl _, Nat.le_refl _, Nat.le_refl _⟩, own1_of h, .inl rfl, .inl rfl, .inl rfl, fun v hv => absurd hv (by simp)⟩
end Go.Proofs.YtbkchepelhkjlaaGreat

/-
 What is on a machine together, by the program: UsedOn; walks over the dump.
-/
namespace Go.Proofs.YtbkchepelhkjlaaGreat
open Go.RowKit
set_option linter.unusedVariables false
def onNode (nm : List UInt8) (q : Con) : Bool := decide (q.node = nm)
def usedOnV (s : St) (nm : List UInt8) : Int × Int := ((sumR (usedL (onNode nm) s.cs)).1, (sumR (usedL (onNode nm) s.cs)).2.1)
end Go.Proofs.YtbkchepelhkjlaaGreat

/-
 What is free on a machine: in plain words; where the model looks for a machine; a walk over the dump.
-/
namespace Go.Proofs.YtbkchepelhkjlaaGreat
open Go.RowKit Go.Maps
set_option linter.unusedVariables false
def lessV (a b c d : Int) : Int × Int := if bothOk (-1) a b c d then (a + -1 * c, b + -1 * d) else (0, 0)
theorem less_both (a b c d : Int) : bothV (-1) a b c d = rv (lessV a b c d).1 (lessV a b c d).2 := by
 cases h : bothOk (-1) a b c d
 ·rw [both_no h, lessV, h]; rfl
 ·rw [both_yes h, lessV, h]; rfl
def freeOnV (s : St) (nm : List UInt8) : Int × Int := match findM nm s.ms with
 | none => (0, 0)
 | some m => lessV m.mem m.cpu (usedOnV s nm).1 (usedOnV s nm).2
end Go.Proofs.YtbkchepelhkjlaaGreat

/-
 What is on a machine together, by the model: UsedOn; walks over the dump.
-/
namespace Go.Proofs.YtbkchepelhkjlaaGreat
open Go.RowKit
set_option linter.unusedVariables false
set_option maxRecDepth 100000 in
set_option maxHeartbeats 2000000 in
theorem specUsedOn_any (x : Sls) (s : St) (nd : List UInt8) (w : World) (h : ConRow w x.ca x.cl s.cs) (hl : x.cl ≤ 1048576) :
  Calls Tryz.prog 18 #[sv x s, .string (bs nd)] w fun e w' => e = .returned (rv (sumR (usedL (fun q => decide (q.node = nd)) s.cs)).1 (sumR (usedL (fun q => decide (q.node = nd)) s.cs)).2.1) ∧ Below w.heap.size w w' := by
 have hlc : (usedL (fun q => decide (q.node = nd)) s.cs).length ≤ 1048576 := by have := h.1; have : (usedL (fun q : Con => decide (q.node = nd)) s.cs).length ≤ s.cs.length := (by simp only [usedL, List.length_map]; exact List.length_filter_le _ _); omega
 have HR := hide h
 clear h
 obtain ⟨⟨sx, sy, so⟩, hs⟩ : ∃ y, sumR (usedL (fun q => decide (q.node = nd)) s.cs) = y := ⟨_, rfl⟩
 have CC := hide (fun wx (hb : Below w.heap.size w wx) => l04On_any x s nd wx ((unhide HR).below hb) hl)
 have CS := hide (fun ao cap wx (h : RRow wx ao (usedL (fun q => decide (q.node = nd)) s.cs).length (usedL (fun q => decide (q.node = nd)) s.cs)) => by have := l04Sum_any ao _ cap (usedL (fun q => decide (q.node = nd)) s.cs) wx h hlc; rw [hs] at this; exact this)
 rw [hs]
 clear hs
 obtain ⟨qa, ql, qc, aa, al, ac, ma, ml, mc, ca, cl, cc⟩ := x
 obtain ⟨qs, clock, epoch, next, serial, apps, ms, cs⟩ := s
 simp only at CC CS hlc
 go_enter Tryz.func18, Tryz.ntmps18
 go_wp2_with fail
 refine (unhide CC _ (capW_below w _)).mono ?_
 rintro e w1 ⟨v, rfl, ho, hb⟩
 obtain ⟨ao, cp, rfl, hrow, _⟩ := ho.row
 have V1 := (capW_var w _).below hb
 have HV1 := hide V1
 have HB1 := hide (below_on (capW_below w _) hb)
 have HROW := hide hrow
 obtain ⟨n, hn⟩ : ∃ n, (usedL (fun q => decide (q.node = nd)) cs).length = n := ⟨_, rfl⟩
 rw [hn] at CS HROW ⊢
 clear hb V1 CC ho hrow hn hlc
 go_wp2_with fail
 refine (unhide CS _ _ _ (unhide HROW)).mono ?_
 rintro e w2 ⟨rfl, hb⟩
 have V1 := (unhide HV1).below hb
 have HB2 := hide (below_on (unhide HB1) hb)
 have V2 := V1.al (.cells #[.int .i64 sx, .int .i64 sy] 33)
 have t0 := V2.c0
 have t1 := V2.c1
 have f0 := V2.f 0
 have f1 := V2.f 1
 have VG := V2.set sx sy
 have k6 := VG.c0
 have k7 := VG.c1
 clear hb V1 V2 VG CS HV1 HB1 HROW
 go_wp2
 refine bodyPost_ret (v := rv sx sy) (by simp [results, Tryz.results18, go_sem, k6, k7]) rfl ⟨rfl, ?_⟩
 repeat (first | exact unhide HB2 | refine below_al ?_ _ | refine below_sc ?_ _ _ _ (by omega))
end Go.Proofs.YtbkchepelhkjlaaGreat

/-
 What is on a machine together: the two sides in one form.
-/
namespace Go.Proofs.YtbkchepelhkjlaaGreat
open Go.RowKit
theorem SRow.cl {w : World} {x : Sls} {s : St} (h : SRow w x s) (hf : FitSt s) : x.cl ≤ 1048576 := by have := h.len.2.2.2; have := hf.2.2.2.1; omega
theorem specUsedOn_v (x : Sls) (s : St) (nd : List UInt8) (w : World) (h : ConRow w x.ca x.cl s.cs) (hl : x.cl ≤ 1048576) :
  Calls Tryz.prog 18 #[sv x s, .string (bs nd)] w fun e w' => e = .returned (rv (usedOnV s nd).1 (usedOnV s nd).2) ∧ Below w.heap.size w w' := specUsedOn_any x s nd w h hl
end Go.Proofs.YtbkchepelhkjlaaGreat

/-
 What the model's Sub answers; a walk over the dump.
-/
namespace Go.Proofs.YtbkchepelhkjlaaGreat
open Go.RowKit
set_option linter.unusedVariables false
set_option maxRecDepth 100000 in
set_option maxHeartbeats 1000000 in
theorem specSub_any (a b c d : Int) (w : World) :
  Calls Tryz.prog 62 #[rv a b, rv c d] w fun e w' => e = .returned (.tuple #[bothV (-1) a b c d, .bool (bothOk (-1) a b c d)]) ∧ Below w.heap.size w w' := by
 have hv : ∃ x y, bothV (-1) a b c d = rv x y := by unfold bothV; split <;> exact ⟨_, _, rfl⟩
 obtain ⟨x, y, hv⟩ := hv
 have hc := l02Both_any a b c d (-1) ((w.alloc (.cells #[.int .i64 a, .int .i64 b] 33)).alloc (.cells #[.int .i64 c, .int .i64 d] 33) |>.alloc (.cells #[.int .i64 0, .int .i64 0] 33)) (by decide)
 rw [hv] at hc ⊢
 go_enter Tryz.func62, Tryz.ntmps62
 go_wp2_with fail
 refine hc.mono ?_
 rintro e w1 ⟨rfl, hb⟩
 have hk : Var w1 33 (w.heap.size + 1 + 1) 0 0 := Var.below (by simpa using var_new ((w.alloc (.cells #[.int .i64 a, .int .i64 b] 33)).alloc (.cells #[.int .i64 c, .int .i64 d] 33)) 33 0 0) hb
 have k0 := hk.c0
 have k1 := hk.c1
 have k2 := hk.f 0
 have k3 := hk.f 1
 have k4 := hk.s0 (.int .i64 x)
 have k5 := hk.s1 (.int .i64 x) (.int .i64 y)
 have HB := hide (below_on (below_al (below_al (below_al (Below.refl _ _) _) _) _) hb)
 clear hb hc hk
 go_wp2
 refine bodyPost_ret (v := .tuple #[rv x y, .bool (bothOk (-1) a b c d)]) (by simp [results, Tryz.results62, go_sem, k4, k5]) rfl ⟨rfl, ?_⟩
 repeat (first | exact unhide HB | refine below_al ?_ _ | refine below_sc ?_ _ _ _ (by omega))
end Go.Proofs.YtbkchepelhkjlaaGreat

/-
 Blocks that stand while a region is run, in whatever order: one word for them.
-/
namespace Go.Proofs.YtbkchepelhkjlaaGreat
open Go.RowKit
set_option linter.unusedVariables false
/-- the blocks of L stand, all of them ahead of n; nothing of w0 has turned -/
def Held (w0 : World) (n : Nat) (L : List (Nat × Array Value × TypeId)) (wx : World) : Prop :=
 (∀ p ∈ L, p.1 < n ∧ Blk wx p.1 p.2.1 p.2.2) ∧ n ≤ wx.heap.size ∧ w0.heap.size ≤ n ∧ Below w0.heap.size w0 wx
theorem Held.blk {w0 : World} {n : Nat} {L : List (Nat × Array Value × TypeId)} {wx : World} (h : Held w0 n L wx) {p : Nat × Array Value × TypeId} (hp : p ∈ L) : Blk wx p.1 p.2.1 p.2.2 := (h.1 p hp).2
theorem Var.blk {w : World} {t : TypeId} {g : Nat} {x y : Int} (h : Var w t g x y) : Blk w g #[.int .i64 x, .int .i64 y] t := h
end Go.Proofs.YtbkchepelhkjlaaGreat

/-
  What is free on a machine, by the model: FreeOn; a walk over the dump.
-/
namespace Go.Proofs.YtbkchepelhkjlaaGreat
open Go.RowKit Go.Maps
set_option linter.unusedVariables false
set_option maxRecDepth 100000 in
set_option maxHeartbeats 4000000 in
theorem specFreeOn_any (x : Sls) (s : St) (nm : List UInt8) (w : World) (h : SRow w x s) (hf : FitSt s) :
    Calls Tryz.prog 17 #[sv x s, .string (bs nm)] w fun e w' => e = .returned (rv (freeOnV s nm).1 (freeOnV s nm).2) ∧ Below w.heap.size w w' := by
  have hml : x.ml ≤ 1048576 := by have := h.len.2.2.1; have := hf.2.2.1.1; omega
  have hcl : x.cl ≤ 1048576 := by have := h.len.2.2.2; have := hf.2.2.2.1; omega
  have CM := hide (fun wx (hb : Below w.heap.size w wx) => l04Machine_any x s nm wx (h.2.2.1.below hb) hml)
  have CU := hide (fun wx (hb : Below w.heap.size w wx) => specUsedOn_v x s nm wx (h.2.2.2.below hb) hcl)
  have HFV := hide (show freeOnV s nm = match findM nm s.ms with | none => (0, 0) | some m => lessV m.mem m.cpu (usedOnV s nm).1 (usedOnV s nm).2 from rfl)
  have HMR := hide (fun wx (hb : Below w.heap.size w wx) => h.2.2.1.below hb)
  have HML := hide h.2.2.1.1
  have hat := macAt_find nm s.ms
  obtain ⟨⟨ux, uy⟩, hu⟩ : ∃ u, usedOnV s nm = u := ⟨_, rfl⟩
  obtain ⟨⟨fx, fy⟩, hfr⟩ : ∃ u, freeOnV s nm = u := ⟨_, rfl⟩
  obtain ⟨at0, ha⟩ : ∃ p, macAt s.ms nm = p := ⟨_, rfl⟩
  rw [hu] at CU HFV
  rw [hfr] at HFV ⊢
  rw [ha] at CM hat
  clear h hf hu hfr ha
  obtain ⟨qa, ql, qc, aa, al, ac, ma, ml, mc, ca, cl, cc⟩ := x
  obtain ⟨qs, clock, epoch, next, serial, apps, ms, cs⟩ := s
  simp only at HFV HMR HML hat
  have HB0 := hide (capW_below w (svc ⟨qa, ql, qc, aa, al, ac, ma, ml, mc, ca, cl, cc⟩ ⟨qs, clock, epoch, next, serial, apps, ms, cs⟩))
  have V0 := hide (capW_var w (svc ⟨qa, ql, qc, aa, al, ac, ma, ml, mc, ca, cl, cc⟩ ⟨qs, clock, epoch, next, serial, apps, ms, cs⟩))
  have P0 := hide ((boxW_blk w (svc ⟨qa, ql, qc, aa, al, ac, ma, ml, mc, ca, cl, cc⟩ ⟨qs, clock, epoch, next, serial, apps, ms, cs⟩)).al (.cells #[.int .i64 0, .int .i64 0] 33))
  go_enter Tryz.func17, Tryz.ntmps17
  go_wp2_with fail
  refine (unhide CM _ (unhide HB0)).mono ?_
  rintro e w1 ⟨rfl, hb⟩
  have HB1 := hide (below_on (unhide HB0) hb)
  have V1 := hide ((unhide V0).below hb)
  have P1 := hide ((unhide P0).below hb)
  clear hb HB0 V0 P0 CM
  rcases hat with ⟨hfm, rfl⟩ | ⟨j, hj, hfm, rfl⟩
  · rw [hfm] at HFV
    simp only at HFV
    have hz := unhide HFV
    simp only [Prod.mk.injEq] at hz
    obtain ⟨rfl, rfl⟩ := hz
    have V2 := unhide V1
    have t0 := V2.c0
    have t1 := V2.c1
    have f0 := V2.f 0
    have f1 := V2.f 1
    have k4 := V2.s0 (.int .i64 0)
    have k5 := V2.s1 (.int .i64 0) (.int .i64 0)
    clear V2
    go_wp2
    refine bodyPost_ret (v := rv 0 0) (by simp [results, Tryz.results17, go_sem, k4, k5]) rfl ⟨rfl, ?_⟩
    repeat (first | exact unhide HB1 | refine below_al ?_ _ | refine below_sc ?_ _ _ _ (by omega))
  · rw [hfm] at HFV
    have hjl : j < ml := by have := unhide HML; omega
    obtain ⟨mb, mo, rfl, hq⟩ := (unhide HMR _ (unhide HB1)).at hjl
    have HQ := hide (hq hj)
    obtain ⟨⟨mn, me, mp, se⟩, hs⟩ : ∃ m, ms[j] = m := ⟨_, rfl⟩
    rw [hs] at HQ HFV
    simp only at HFV
    have HRV := hide (show bothV (-1) me mp ux uy = rv fx fy by rw [less_both, ← unhide HFV])
    have CB := hide (fun wx => by have := specSub_any me mp ux uy wx; rw [unhide HRV] at this; exact this)
    obtain ⟨ok, hok⟩ : ∃ o, bothOk (-1) me mp ux uy = o := ⟨_, rfl⟩
    rw [hok] at CB
    have j0 : (0 : Int) ≤ j := by omega
    have j1 : (j : Int) < ml := by omega
    clear hok HRV HFV hfm hq hs hj
    have R : ∀ wx, Kp w1 wx → wx.cell? ⟨w.heap.size, 0, none⟩ = some (.slice qa ql qc) ∧ wx.cell? ⟨w.heap.size, 1, none⟩ = some (.int .i64 clock) ∧ wx.cell? ⟨w.heap.size, 2, none⟩ = some (.int .i64 epoch) ∧ wx.cell? ⟨w.heap.size, 3, none⟩ = some (.int .i64 next) ∧ wx.cell? ⟨w.heap.size, 4, none⟩ = some (.int .i64 serial) ∧ wx.cell? ⟨w.heap.size, 5, none⟩ = some (.slice aa al ac) ∧ wx.cell? ⟨w.heap.size, 6, none⟩ = some (.slice (some ⟨mb, mo, none⟩) ml mc) ∧ wx.cell? ⟨w.heap.size, 7, none⟩ = some (.slice ca cl cc) ∧ wx.cell? ⟨mb, mo + j * 4 + 1, none⟩ = some (.int .i64 me) ∧ wx.cell? ⟨mb, mo + j * 4 + 2, none⟩ = some (.int .i64 mp) := fun wx h =>
      ⟨h.cell ((unhide P1).at 0), h.cell ((unhide P1).at 1), h.cell ((unhide P1).at 2), h.cell ((unhide P1).at 3), h.cell ((unhide P1).at 4), h.cell ((unhide P1).at 5), h.cell ((unhide P1).at 6), h.cell ((unhide P1).at 7), h.cell (unhide HQ).2.1, h.cell (unhide HQ).2.2.1⟩
    have A0 := hide (Kp.new w1)
    have HS := hide (kp_holds w1)
    have hw1 := (unhide V1).lt
    go_wp2_with fail
    go_cut [6, 7] from 14 to 26 (fun v7 v8 wx => ∃ g, v7 = .pointer (some ⟨g, 0, none⟩) ∧ v8 = .bool ok ∧ Kp w1 wx ∧ Var wx 33 g fx fy ∧ w1.heap.size ≤ g)
    case first =>
      go_region_held3 (fun wx => Kp w1 wx)
        (first | (with_reducible assumption) | exact unhide SA | exact (unhide HS).drew (unhide A0) | exact (unhide HS).al (unhide SA) _ | exact (unhide HS).al (by assumption) _ | exact (unhide HS).al ((unhide HS).drew (unhide A0)) _ | exact (unhide HS).call (by assumption) (by assumption) | exact (unhide HS).set2 (unhide SA) _ _ _ (by first | omega | (simp <;> omega)) | exact (unhide HS).set2 (by assumption) _ _ _ (by first | omega | (simp <;> omega)))
        (first
        | (go_at_call 18; refine (unhide CU _ ?_).mono ?_; (exact below_on (unhide HB1) ((unhide HS).below (by assumption))); rintro e wt ⟨rfl, hb⟩; have SA := hide ((unhide HS).call (by assumption) hb); have sz := (unhide HS).size (unhide SA)
           first
             | (have V5 := (var_new _ 33 0 0).below hb; (try simp at V5); have c50 := V5.c0; have c51 := V5.c1; have f50 := V5.f 0; have f51 := V5.f 1; have V5 := hide V5)
             | (have V5 := (var_new _ 33 0 0).drew.below hb; (try simp at V5); have c50 := V5.c0; have c51 := V5.c1; have f50 := V5.f 0; have f51 := V5.f 1; have V5 := hide V5)
             | skip)
        | (go_at_call 62; refine (unhide CB _).mono ?_; rintro e wt ⟨rfl, hb⟩; have SA := hide ((unhide HS).call (by assumption) hb); have sz := (unhide HS).size (unhide SA)
           first
             | (have V5 := (var_new _ 33 0 0).below hb; (try simp at V5); have c50 := V5.c0; have c51 := V5.c1; have f50 := V5.f 0; have f51 := V5.f 1; have V5 := hide V5)
             | (have V5 := (var_new _ 33 0 0).drew.below hb; (try simp at V5); have c50 := V5.c0; have c51 := V5.c1; have f50 := V5.f 0; have f51 := V5.f 1; have V5 := hide V5)
             | (have V5 := hide ((unhide V5).below hb); have c50 := (unhide V5).c0; have c51 := (unhide V5).c1; have f50 := (unhide V5).f 0; have f51 := (unhide V5).f 1)
             | skip))
      all_goals
        go_wp2_with fail
        go_meet
        exact ⟨_, rfl, rfl, by first | assumption | exact unhide SA | exact (unhide HS).al (unhide SA) _, by first | exact var_new _ _ _ _ | exact (unhide V5).set _ _, by first | omega | (simp <;> omega)⟩
    case rest =>
      obtain ⟨g, rfl, rfl, hA, hV, hg⟩ := hcut
      have HB2 := hide (below_on (unhide HB1) hA)
      have v0 := hV.c0
      have v1 := hV.c1
      have V2 := (unhide V1).below hA
      have t0 := V2.c0
      have t1 := V2.c1
      have f0 := V2.f 0
      have f1 := V2.f 1
      have k4 := V2.s0 (.int .i64 fx)
      have k5 := V2.s1 (.int .i64 fx) (.int .i64 fy)
      clear hA hV A0 CB CU R V2 V1 P1 HB1
      go_wp2
      refine bodyPost_ret (v := rv fx fy) (by simp [results, Tryz.results17, go_sem, k4, k5]) rfl ⟨rfl, ?_⟩
      repeat (first | exact unhide HB2 | refine below_al ?_ _ | refine below_sc ?_ _ _ _ (by omega))
end Go.Proofs.YtbkchepelhkjlaaGreat

/-
 A store into one cell of a block that is known, and of a whole struct into its variable: what they leave.
-/
namespace Go.Proofs.YtbkchepelhkjlaaGreat
open Go.RowKit
theorem put_cell {P : Program} {w : World} {b j : Nat} {arr : Array Value} {t : TypeId} (ty : TypeId) (v : Value) (h : Blk w b arr t) (hj : j < arr.size) (hi : (P.info? ty).map (·.size) = some 1) (h1 : v.oneCell' = true) :
  (Instr.storeAt ty (.pointer (some ⟨b, j, none⟩)) v).run P w = .ok () (w.setCell ⟨b, j, none⟩ v) := by
 have c1 : w.cell? ⟨b, j, none⟩ = some arr[j] := by rw [h.at]; simp [hj]
 have f1 := h.f j
 have hs := run_storeCells_cells (P := P) b j [v] 0 w (fun i hi => by simp at hi; subst hi; simp [c1]) (fun i hi => by simp at hi; subst hi; simpa using f1) (fun u hu => by simp at hu; subst hu; exact h1)
 simp only [Nat.add_zero] at hs
 have hc : v.cells = #[v] := by cases v <;> first | rfl | cases h1
 cases hq : P.info? ty with
 | none => simp [hq] at hi
 | some i =>
  have hz : i.size = 1 := by simpa [hq] using hi
  simp [Instr.storeAt, Instr.sureAddr, storeVar, sizeOf, typeInfo, hq, hc, hz, hs]
  rfl
theorem blk_store {P : Program} {w : World} {b : Nat} {old arr : Array Value} {t : TypeId} (ty : TypeId) (h : Blk w b old t) (hi : (P.info? ty).map (·.size) = some arr.size) (ho : old.size = arr.size) (h1 : arr.all (·.oneCell') = true) :
  (Instr.storeAt ty (.pointer (some ⟨b, 0, none⟩)) (.agg arr)).run P w = .ok () (w.setRow b arr) := by
 simp only [Instr.storeAt, Instr.sureAddr, Sem.run_bind, Sem.run_pure, Result.andThen]
 exact run_storeVar_row w b t ty old arr h hi ho h1
theorem run_allocv {P : Program} (w : World) (t : TypeId) (z : Array Value) (hz : (P.info? t).map (·.zero) = some (some (.agg z))) :
  (Instr.alloc t true (.tuple #[])).run P w = .ok (.pointer (some ⟨w.heap.size, 0, none⟩)) (w.alloc (.cells z t)) := by
 cases hq : P.info? t with
 | none => simp [hq] at hz
 | some i =>
  have h : i.zero = some (.agg z) := by simpa [hq] using hz
  simp [Instr.alloc, zeroValue, typeInfo, hq, h, newVar, newRow, Value.cells, go_sem]
theorem run_bs {P : Program} (w : World) (t e : TypeId) (len sz : Nat) (parts : Array (Nat × Value)) (z : Value) (cells : Array Value) (hu : P.underlying t = some (.slice e)) (hi : (P.info? e).map (fun i => (i.zero, i.size)) = some (some z, sz)) (hs : len * sz ≤ 16777216) (hp : 0 < len * sz)
  (hf : Instr.fill (fun i => some (i * sz, sz)) ((Array.range (len * sz)).map (z.cells[· % z.cells.size]!)) parts.toList = some cells) :
  (Instr.buildSlice t len parts).run P w = .ok (.slice (some ⟨w.heap.size, 0, none⟩) len len) (w.alloc (.cells cells e)) := by
 cases hq : P.info? e with
 | none => simp [hq] at hi
 | some i =>
  simp only [hq, Option.map_some, Option.some.injEq, Prod.mk.injEq] at hi
  obtain ⟨h1, rfl⟩ := hi
  exact run_buildSlice w t e len parts cells i z hu hq h1 (by omega) (by omega) hf
theorem fill5 (a b c d e : Value) (base : Array Value) (hb : base.size = 5) : Instr.fill (fun i => some (i * 5, 5)) base [(0, .agg #[a, b, c, d, e])] = some #[a, b, c, d, e] := by
 obtain ⟨l⟩ := base
 match l, hb with
 | [_, _, _, _, _], _ => rfl
theorem run_bs5 {P : Program} (w : World) (t e : TypeId) (parts : Array (Nat × Value)) (z : Value) (a b c d f : Value) (hu : P.underlying t = some (.slice e)) (hi : (P.info? e).map (fun i => (i.zero, i.size)) = some (some z, 5)) (hp : parts = #[(0, .agg #[a, b, c, d, f])]) :
  (Instr.buildSlice t 1 parts).run P w = .ok (.slice (some ⟨w.heap.size, 0, none⟩) 1 1) (w.alloc (.cells #[a, b, c, d, f] e)) := by
 subst hp
 exact run_bs w t e 1 5 _ z _ hu hi (by decide) (by decide) (fill5 a b c d f _ (by simp))
theorem fill3 (a b c : Value) (base : Array Value) (hb : base.size = 3) : Instr.fill (fun i => some (i * 3, 3)) base [(0, .agg #[a, b, c])] = some #[a, b, c] := by
 obtain ⟨l⟩ := base
 match l, hb with
 | [_, _, _], _ => rfl
theorem run_bs3 {P : Program} (w : World) (t e : TypeId) (parts : Array (Nat × Value)) (z : Value) (a b c : Value) (hu : P.underlying t = some (.slice e)) (hi : (P.info? e).map (fun i => (i.zero, i.size)) = some (some z, 3)) (hp : parts = #[(0, .agg #[a, b, c])]) :
  (Instr.buildSlice t 1 parts).run P w = .ok (.slice (some ⟨w.heap.size, 0, none⟩) 1 1) (w.alloc (.cells #[a, b, c] e)) := by
 subst hp
 exact run_bs w t e 1 3 _ z _ hu hi (by decide) (by decide) (fill3 a b c _ (by simp))
theorem app_load {w : World} {b : Nat} {arr : Array Value} (h : Blk w b arr 41) (hs : arr.size = 3) : (Instr.loadAt 41 (.pointer (some ⟨b, 0, none⟩))).run Tryz.prog w = .ok (.agg arr) w := by
 simp only [Instr.loadAt, Instr.sureAddr, Sem.run_bind, Sem.run_pure, Result.andThen]
 exact run_loadVar_row w b 41 41 arr (0, 0) _ h Tryz.underlying41 rfl (by rw [show (Tryz.prog.info? 41).map (·.size) = some 3 by kernel_rfl, hs])
theorem cont_load {w : World} {b : Nat} {arr : Array Value} (h : Blk w b arr 70) (hs : arr.size = 5) : (Instr.loadAt 70 (.pointer (some ⟨b, 0, none⟩))).run Tryz.prog w = .ok (.agg arr) w := by
 simp only [Instr.loadAt, Instr.sureAddr, Sem.run_bind, Sem.run_pure, Result.andThen]
 exact run_loadVar_row w b 70 70 arr (0, 0) _ h Tryz.underlying70 rfl (by rw [show (Tryz.prog.info? 70).map (·.size) = some 5 by kernel_rfl, hs])
theorem state_load {w : World} {b : Nat} {arr : Array Value} (h : Blk w b arr 29) (hs : arr.size = 8) : (Instr.loadAt 29 (.pointer (some ⟨b, 0, none⟩))).run Tryz.prog w = .ok (.agg arr) w := by
 simp only [Instr.loadAt, Instr.sureAddr, Sem.run_bind, Sem.run_pure, Result.andThen]
 exact run_loadVar_row w b 29 29 arr (0, 0) _ h Tryz.underlying29 rfl (by rw [show (Tryz.prog.info? 29).map (·.size) = some 8 by kernel_rfl, hs])
end Go.Proofs.YtbkchepelhkjlaaGreat
