/-
  Several texts of this claim in one: CopyS, TakE, DropM, KidM, SOwn, TextsR, UsedByM (pack.py put them together); each says in its own remark what is proved.
-/
import Derived.Test.YtcplnodfcchdhaaGreatPackZ
import Derived.Test.YtcplnodfcchdhaaGreatPackAB
import Derived.Deep.CutBlock
import Derived.Deep.CutRange
import Derived.Deep.AppendLies
import Derived.OneCell
import Derived.Test.YtcplnodfcchdhaaGreatPackG
import Derived.Test.YtcplnodfcchdhaaGreatPackX
import Derived.Test.YtcplnodfcchdhaaGreatPackAA
import Derived.Test.YtcplnodfcchdhaaGreatPackO
import Derived.Test.YtcplnodfcchdhaaGreatPackQ
import Derived.Test.YtcplnodfcchdhaaGreatPackB
import Derived.Test.YtcplnodfcchdhaaGreatPackC
import Derived.Test.YtcplnodfcchdhaaGreatPackU
import Derived.Test.YtcplnodfcchdhaaGreatPackL
/-
  A state copied by the model: what l04Copy answers: the same state, in memory of its own; a walk over the dump.
-/
namespace Go.Proofs.YtcplnodfcchdhaaGreat
open Go.RowKit
set_option linter.unusedVariables false
/-- what a copy in the making has: its three boxes -/
structure CpS (w : World) (a0 : Array Value) (arr : Array Value) (wr : World) : Prop where
  r0 : Blk wr w.heap.size a0 29
  r1 : Blk wr (w.heap.size + 1) #[.slice none 0 0, .int .i64 0, .int .i64 0, .int .i64 0, .int .i64 0, .slice none 0 0, .slice none 0 0, .slice none 0 0] 29
  r2 : Blk wr (w.heap.size + 2) arr 29
  b : Below w.heap.size w wr
  z : w.heap.size + 3 ≤ wr.heap.size
theorem CpS.below {w : World} {a0 arr : Array Value} {wr wy : World} (h : CpS w a0 arr wr) (hb : Below wr.heap.size wr wy) : CpS w a0 arr wy := ⟨h.r0.below hb, h.r1.below hb, h.r2.below hb, below_on h.b hb, Nat.le_trans h.z hb.size⟩
theorem CpS.sc {w : World} {a0 arr : Array Value} {wr : World} (h : CpS w a0 arr wr) (j : Nat) (v : Value) : CpS w a0 (arr.setIfInBounds j v) (wr.setCell ⟨w.heap.size + 2, j, none⟩ v) :=
  ⟨h.r0.other _ _ _ (by omega), h.r1.other _ _ _ (by omega), h.r2.set j v, below_sc h.b _ _ _ (by omega), by rw [set_size]; exact h.z⟩
theorem CpS.grown {w : World} {a0 arr : Array Value} {wr wy : World} {t' : TypeId} {r : Option Nat} (h : CpS w a0 arr wr) (hg : wr.grownBy wy r) (hr : ∀ k, r = some k → w.heap.size ≤ k ∧ ∃ N, Cel wr t' k N) (ht : t' ≠ 29) : CpS w a0 arr wy :=
  ⟨h.r0.grown hg (fun k e => (hr k e).2) ht, h.r1.grown hg (fun k e => (hr k e).2) ht, h.r2.grown hg (fun k e => (hr k e).2) ht, h.b.grown hg (by have := h.z; omega) (fun k e => (hr k e).1), Nat.le_trans h.z hg.size⟩

end Go.Proofs.YtcplnodfcchdhaaGreat

/-
  What the program's Drop and Lose answer: the state that is left, in memory of its own, and what is gone; walks over the dump.
-/
namespace Go.Proofs.YtcplnodfcchdhaaGreat
open Go.RowKit
set_option linter.unusedVariables false
theorem SHas.sc {B k j : Nat} {v : Value} {w : World} {x : Sls} {s : St} {hs : List AV} (h : SHas B w x s hs) (hk : k < B) : SHas B (w.setCell ⟨k, j, none⟩ v) x s hs := ⟨h.q.sc hk, h.p.sc hk, h.k.sc (.inl hk), h.m.sc hk, h.c.sc hk, h.cap, (h.rm.sc k j v).mono (Nat.le_refl _) (by rw [set_size]; exact Nat.le_refl _)⟩
end Go.Proofs.YtcplnodfcchdhaaGreat

/-
  A right state without an application or a machine, in plain words: the model's way and the program's are one.
-/
namespace Go.Proofs.YtcplnodfcchdhaaGreat
open Go.RowKit
set_option linter.unusedVariables false
theorem conts_pair {apps : List Appl} {ms : List Mac} : ∀ (cs : List Con) (last : Int), contsS apps ms last cs = true → (∀ c ∈ cs, last < c.id ∧ (findAp c.app apps).isSome = true ∧ (findM c.node ms).isSome = true) ∧ cs.Pairwise (fun a b => a.id < b.id)
  | [], last, _ => ⟨fun c h => absurd h (by simp), .nil⟩
  | c :: t, last, h => by
    simp only [contsS, Bool.and_eq_true, decide_eq_true_eq] at h
    obtain ⟨h1, _, h3, h4, _, h6⟩ := h
    obtain ⟨i1, i2⟩ := conts_pair t c.id h6
    refine ⟨fun d hd => ?_, List.pairwise_cons.2 ⟨fun d hd => (i1 d hd).1, i2⟩⟩
    rcases List.mem_cons.1 hd with rfl | hd
    · exact ⟨h1, h3, h4⟩
    · exact ⟨by have := (i1 d hd).1; omega, (i1 d hd).2⟩
theorem apps_pair {qs : List Q} {nx : Int} : ∀ (l : List Appl) (last : Int), appsFrom qs nx last l = true → (∀ a ∈ l, last < a.id) ∧ l.Pairwise (fun a b => a.id ≠ b.id)
  | [], last, _ => ⟨fun c h => absurd h (by simp), .nil⟩
  | a :: t, last, h => by
    simp only [appsFrom, Bool.and_eq_true, decide_eq_true_eq] at h
    obtain ⟨h1, _, _, _, h5⟩ := h
    obtain ⟨i1, i2⟩ := apps_pair t a.id h5
    refine ⟨fun d hd => ?_, List.pairwise_cons.2 ⟨fun d hd => by have := i1 d hd; omega, i2⟩⟩
    rcases List.mem_cons.1 hd with rfl | hd
    · exact h1
    · have := i1 d hd; omega
theorem machs_pair {ck : Int} : ∀ (l : List Mac) (last : List UInt8), machsFrom ck last l = true → l.Pairwise (fun a b => a.name ≠ b.name)
  | [], last, _ => .nil
  | m :: t, last, h => by
    have h' := h
    simp only [machsFrom, Bool.and_eq_true, decide_eq_true_eq] at h
    obtain ⟨_, _, _, _, h5⟩ := h
    refine List.pairwise_cons.2 ⟨fun d hd e => ?_, machs_pair t m.name h5⟩
    have := machs_above t m.name h5 d hd
    rw [e, bl_irr] at this
    exact absurd this (by simp)
theorem okParts {s : St} (h : stateOkV s = true) : s.cs.Pairwise (fun a b => a.id < b.id) ∧ (∀ c ∈ s.cs, (findAp c.app s.apps).isSome = true ∧ (findM c.node s.ms).isSome = true) ∧ s.apps.Pairwise (fun a b => a.id ≠ b.id) ∧ s.ms.Pairwise (fun a b => a.name ≠ b.name) := by
  simp only [stateOkV, stateOkS, Bool.and_eq_true, appsOkV, machsOkS] at h
  obtain ⟨_, _, _, _, _, ⟨_, h6⟩, ⟨h7, _⟩, _, h9⟩ := h
  obtain ⟨c1, c2⟩ := conts_pair _ _ h9
  exact ⟨c2, fun c hc => (c1 c hc).2, (apps_pair _ _ h6).2, machs_pair _ _ ((machsS_iff _ _).1 h7).1⟩
end Go.Proofs.YtcplnodfcchdhaaGreat

/-
  The ways up of a tree of queues: a queue that is no leaf is on the way up of a leaf if and only if just one of its kids is; plain mathematics.
-/
namespace Go.Proofs.YtcplnodfcchdhaaGreat
open Go.RowKit
set_option linter.unusedVariables false
theorem placeFrom_at {nm : List UInt8} : ∀ (l : List Q) (k j : Nat), placeFrom nm l k = (j : Int) → ∃ i, ∃ h : i < l.length, j = k + i ∧ l[i].name = nm
  | [], k, j, h => by simp [placeFrom] at h
  | q :: t, k, j, h => by
    rw [placeFrom] at h
    split at h
    · rename_i hq
      exact ⟨0, by simp, by omega, by simpa using hq⟩
    · obtain ⟨i, hi, e1, e2⟩ := placeFrom_at t (k + 1) j h
      exact ⟨i + 1, by simpa using hi, by omega, by simpa using e2⟩
theorem place_at {l : List Q} {nm : List UInt8} {j : Nat} (h : place l nm = (j : Int)) : ∃ hj : j < l.length, l[j].name = nm := by
  obtain ⟨i, hi, e1, e2⟩ := placeFrom_at l 0 j h
  obtain rfl : j = i := by omega
  exact ⟨hi, e2⟩
theorem place_own {l : List Q} (h : queuesOk l = true) {i : Nat} (hi : i < l.length) : place l l[i].name = (i : Int) := by
  have h1 := ok_at h i hi
  simp only [qOk, Bool.and_eq_true, decide_eq_true_eq] at h1
  exact h1.1.1.1.2
theorem parent_there {l : List Q} (h : queuesOk l = true) {i : Nat} (hi : i < l.length) (h0 : 1 ≤ i) : 0 ≤ place l l[i].parent := by
  have h1 := ok_at h i hi
  simp only [qOk, Bool.and_eq_true, decide_eq_true_eq] at h1
  have h2 := h1.2
  rw [if_neg (by omega)] at h2
  simp only [inB, decide_eq_true_eq] at h2
  omega
/-- the way up from place k -/
def wayUp (l : List Q) (k : Int) : List (List UInt8) := pathAt l (l.length + 1) k
theorem way_step {l : List Q} (h : queuesOk l = true) {k : Nat} (hk : k < l.length) : wayUp l k = l[k].name :: wayUp l (place l l[k].parent) := path_step h hk (by omega)
theorem way_none {l : List Q} {p : Int} (hp : p < 0) : wayUp l p = [] := path_end hp
/-- who is on the way up stands no later -/
theorem way_le {l : List Q} (h : queuesOk l = true) : ∀ (n k : Nat), k ≤ n → k < l.length → ∀ (i : Nat) (hi : i < l.length), l[i].name ∈ wayUp l k → i ≤ k
  | n, k, hn, hk, i, hi, hm => by
    rw [way_step h hk] at hm
    rcases List.mem_cons.1 hm with e | hm
    · have a := place_own h hi
      have b := place_own h hk
      rw [e] at a
      omega
    · have hp := parent_ahead h hk
      by_cases h0 : place l l[k].parent < 0
      · rw [way_none h0] at hm; simp at hm
      · obtain ⟨p, hpe⟩ := Int.eq_ofNat_of_zero_le (Int.not_lt.1 h0)
        rw [hpe] at hm hp
        cases n with
        | zero => omega
        | succ n =>
          have := way_le h n p (by omega) (by omega) i hi hm
          omega
/-- two kids of one queue are not both on one way up -/
theorem way_one {l : List Q} (h : queuesOk l = true) : ∀ (n k : Nat), k ≤ n → k < l.length → ∀ (i j : Nat) (hi : i < l.length) (hj : j < l.length), i < j → l[i].parent = l[j].parent → l[i].name ∈ wayUp l k → l[j].name ∈ wayUp l k → False
  | n, k, hn, hk, i, j, hi, hj, hij, hp, mi, mj => by
    have li := way_le h k k (Nat.le_refl _) hk j hj mj
    have hpk := parent_ahead h hk
    rw [way_step h hk] at mi mj
    have ei : l[i].name ∈ wayUp l (place l l[k].parent) := by
      rcases List.mem_cons.1 mi with e | m
      · have a := place_own h hi
        have b := place_own h hk
        rw [e] at a
        omega
      · exact m
    have h0 : ¬ place l l[k].parent < 0 := fun h0 => by rw [way_none h0] at ei; simp at ei
    obtain ⟨p, hpe⟩ := Int.eq_ofNat_of_zero_le (Int.not_lt.1 h0)
    rw [hpe] at ei hpk
    have hpl : p < l.length := by omega
    rcases List.mem_cons.1 mj with e | m
    · have a := place_own h hj
      have b := place_own h hk
      rw [e] at a
      obtain rfl : j = k := by omega
      have c := way_le h p p (Nat.le_refl _) hpl i hi ei
      have d := parent_ahead h hi
      rw [hp, hpe] at d
      omega
    · rw [hpe] at m
      cases n with
      | zero => omega
      | succ n => exact way_one h n p (by omega) hpl i j hi hj hij hp ei m
/-- whose kid is on the way up is on it, too -/
theorem way_up {l : List Q} (h : queuesOk l = true) : ∀ (n k : Nat), k ≤ n → k < l.length → ∀ (i : Nat) (hi : i < l.length), 1 ≤ i → l[i].name ∈ wayUp l k → l[i].parent ∈ wayUp l k
  | n, k, hn, hk, i, hi, h1, hm => by
    have hpk := parent_ahead h hk
    rw [way_step h hk] at hm ⊢
    rcases List.mem_cons.1 hm with e | hm
    · have a := place_own h hi
      have b := place_own h hk
      rw [e] at a
      obtain rfl : i = k := by omega
      have h0 := parent_there h hi h1
      obtain ⟨p, hpe⟩ := Int.eq_ofNat_of_zero_le h0
      obtain ⟨hpl, hn⟩ := place_at hpe
      refine List.mem_cons_of_mem _ ?_
      rw [hpe, way_step h hpl, hn]
      exact List.mem_cons_self ..
    · refine List.mem_cons_of_mem _ ?_
      have h0 : ¬ place l l[k].parent < 0 := fun h0 => by rw [way_none h0] at hm; simp at hm
      obtain ⟨p, hpe⟩ := Int.eq_ofNat_of_zero_le (Int.not_lt.1 h0)
      rw [hpe] at hm hpk ⊢
      cases n with
      | zero => omega
      | succ n => exact way_up h n p (by omega) (by omega) i hi h1 hm
/-- who is on the way up of another has a kid on it -/
theorem way_kid {l : List Q} (h : queuesOk l = true) {nm : List UInt8} : ∀ (n k : Nat), k ≤ n → ∀ hk : k < l.length, nm ≠ l[k].name → nm ∈ wayUp l k → ∃ i, ∃ hi : i < l.length, 1 ≤ i ∧ l[i].parent = nm ∧ l[i].name ∈ wayUp l k
  | n, k, hn, hk, hne, hm => by
    have hpk := parent_ahead h hk
    have hs := way_step h hk
    rw [hs] at hm
    rcases List.mem_cons.1 hm with e | hm
    · exact absurd e hne
    · have h0 : ¬ place l l[k].parent < 0 := fun h0 => by rw [way_none h0] at hm; simp at hm
      obtain ⟨p, hpe⟩ := Int.eq_ofNat_of_zero_le (Int.not_lt.1 h0)
      obtain ⟨hpl, hpn⟩ := place_at hpe
      rw [hpe] at hm hpk
      by_cases he : nm = l[p].name
      · refine ⟨k, hk, by omega, by rw [he, hpn], ?_⟩
        rw [hs]
        exact List.mem_cons_self ..
      · cases n with
        | zero => omega
        | succ n =>
          obtain ⟨i, hi, i1, i2, i3⟩ := way_kid h n p (by omega) hpl he hm
          refine ⟨i, hi, i1, i2, ?_⟩
          rw [hs, hpe]
          exact List.mem_cons_of_mem _ i3
/-- the same of the way up from a name -/
theorem path_way {l : List Q} (h : queuesOk l = true) {nm : List UInt8} (hp : 0 ≤ place l nm) : ∃ k, ∃ hk : k < l.length, l[k].name = nm ∧ path l nm = wayUp l k := by
  obtain ⟨k, hke⟩ := Int.eq_ofNat_of_zero_le hp
  obtain ⟨hk, hn⟩ := place_at hke
  exact ⟨k, hk, hn, by rw [path, if_pos h, hke]; rfl⟩
def onP (l : List Q) (at' nm : List UInt8) : Bool := (path l at').any (fun x => decide (x = nm))
theorem onP_iff {l : List Q} {a nm : List UInt8} : onP l a nm = true ↔ nm ∈ path l a := by
  simp only [onP, List.any_eq_true, decide_eq_true_eq]
  exact ⟨fun ⟨x, hx, e⟩ => e ▸ hx, fun h => ⟨nm, h, rfl⟩⟩
/-- of two kids of one queue at most one is on the way up -/
theorem kids_apart {l : List Q} (h : queuesOk l = true) {a : List UInt8} {i j : Nat} (hi : i < l.length) (hj : j < l.length) (hij : i < j) (hp : l[i].parent = l[j].parent) (mi : onP l a l[i].name = true) : onP l a l[j].name = false := by
  cases mj : onP l a l[j].name with
  | false => rfl
  | true =>
    rw [onP_iff] at mi mj
    have hpl : 0 ≤ place l a := by
      rcases place_range l a with e | e
      · rw [path, if_pos h, path_end (by omega)] at mi; simp at mi
      · exact e.1
    obtain ⟨k, hk, _, hw⟩ := path_way h hpl
    rw [hw] at mi mj
    exact (way_one h k k (Nat.le_refl _) hk i j hi hj hij hp mi mj).elim
/-- a queue that is no leaf is on the way up of a leaf where one of its kids is, and there alone -/
theorem kid_on {l : List Q} (h : queuesOk l = true) {a nm : List UInt8} (ha : lone l a = true) (hn : leaf l nm = false) : onP l a nm = true ↔ ∃ i, ∃ hi : i < l.length, 1 ≤ i ∧ l[i].parent = nm ∧ onP l a l[i].name = true := by
  have hne : nm ≠ a := fun e => by rw [leaf_lone, h, e, ha] at hn; cases hn
  simp only [lone, Bool.and_eq_true, decide_eq_true_eq] at ha
  obtain ⟨k, hk, hkn, hw⟩ := path_way h ha.2
  simp only [onP_iff, hw]
  constructor
  · intro hm
    exact way_kid h k k (Nat.le_refl _) hk (by rw [hkn]; exact hne) hm
  · rintro ⟨i, hi, h1, e, hm⟩
    rw [← e]
    exact way_up h k k (Nat.le_refl _) hk i hi h1 hm
end Go.Proofs.YtcplnodfcchdhaaGreat

/-
  Lists of texts that a call gathers, one behind the other.
-/
namespace Go.Proofs.YtcplnodfcchdhaaGreat
open Go.RowKit
set_option linter.unusedVariables false
abbrev scells (o : List ByteArray) : List Value := o.map Value.string
theorem Tryz.infoS : (Tryz.prog.info? 9).map (fun i => (i.zero, i.size, i.bytes)) = some (some (.string ByteArray.empty), 1, 16) := by kernel_rfl
theorem sown_empty (w : World) : (w.alloc (.cells #[] 9)).ownsRow w.heap.size 9 1 (.slice (some ⟨w.heap.size, 0, none⟩) 0 0) ([] : List ByteArray).length (scells []) :=
  ⟨rfl, .inr ⟨w.heap.size, 0, #[], rfl, Nat.le_refl _, by show (w.heap.push _)[w.heap.size]? = _; simp, Nat.le_refl _, by unfold maxLen; omega, rfl, rfl⟩⟩
theorem srow_step {w wr w1 : World} {B : Nat} {v v' : Value} {o : List ByteArray} {x : ByteArray} {ob : Obj} (hb : Below B w wr) (hown : wr.ownsRow B 9 1 v o.length (scells o))
    (h1 : w1.ownsRow B 9 1 v' (o.length + 1) (scells o ++ [.string x])) (hg : (wr.alloc ob).grownBy w1 v.ownBlock) (hB : B ≤ wr.heap.size) :
    w1.ownsRow B 9 1 v' (o ++ [x]).length (scells (o ++ [x])) ∧ Below B w w1 := by
  refine ⟨by simpa [scells] using h1, (hb.alloc hB ob).grown hg (by simp; omega) ?_⟩
  intro k hk
  rcases hown.2 with ⟨rfl, _⟩ | ⟨g, cap, cur, rfl, hg', _⟩
  · simp [Value.ownBlock] at hk
  · simp [Value.ownBlock] at hk; omega
theorem ss_of_owns {w : World} {B : Nat} {v : Value} {o : List ByteArray} (h : w.ownsRow B 9 1 v o.length (scells o)) (ho : 1 ≤ o.length) : ∃ g cap, v = .slice (some ⟨g, 0, none⟩) o.length cap ∧ SS w g cap o ∧ B ≤ g := by
  rcases h.2 with ⟨_, h0⟩ | ⟨g, cap, cur, rfl, h1, h2, h3, h4, h5, h6⟩
  · omega
  · exact ⟨g, cap, rfl, SS.mk h2 h3 h4 (by simpa using h5) (by simpa using h6), h1⟩

theorem sown_below {w w' : World} {B : Nat} {v : Value} {o : List ByteArray} (h : w.ownsRow B 9 1 v o.length (scells o)) (hb : Below w.heap.size w w') : w'.ownsRow B 9 1 v o.length (scells o) :=
  h.kept (grownBy_below (grownBy_refl w none) hb) (by by_cases e : v.ownBlock = none; exact .inl e; exact .inr e)
/-- v is a list of these texts, in memory of its own from block B on -/
def Texts (B : Nat) (w : World) (v : Value) (ps : List (List UInt8)) : Prop := w.ownsRow B 9 1 v (ps.map bs).length (scells (ps.map bs))
theorem Texts.of {B : Nat} {w : World} {v : Value} {ps : List (List UInt8)} {o : List ByteArray} (h : w.ownsRow B 9 1 v o.length (scells o)) (e : o = ps.map bs) : Texts B w v ps := by subst e; exact h
theorem Texts.below {w w' : World} {B : Nat} {v : Value} {ps : List (List UInt8)} (h : Texts B w v ps) (hb : Below w.heap.size w w') : Texts B w' v ps := sown_below h hb
end Go.Proofs.YtcplnodfcchdhaaGreat

/-
  Lists of texts: as rows.
-/
namespace Go.Proofs.YtcplnodfcchdhaaGreat
open Go.RowKit
set_option linter.unusedVariables false
theorem texts_none {B : Nat} {w : World} {v : Value} (h : Texts B w v []) : ∃ a cap, v = .slice a 0 cap := by
  rcases h.2 with ⟨rfl, _⟩ | ⟨g, cap, cur, rfl, _⟩
  · exact ⟨_, _, rfl⟩
  · exact ⟨_, _, rfl⟩
theorem texts_some {B : Nat} {w : World} {v : Value} {ps : List (List UInt8)} (h : Texts B w v ps) (hp : ps ≠ []) : ∃ g cap, v = .slice (some ⟨g, 0, none⟩) ps.length cap ∧ SS w g cap (ps.map bs) ∧ B ≤ g := by
  have hl : 0 < ps.length := List.length_pos_iff.2 hp
  obtain ⟨g, cap, h1, h2, h3⟩ := ss_of_owns h (by simp; omega)
  exact ⟨g, cap, by rw [h1]; simp, h2, h3⟩
theorem SS.text {w : World} {g cap : Nat} {ps : List (List UInt8)} (h : SS w g cap (ps.map bs)) {j : Nat} (hj : j < ps.length) : w.cell? ⟨g, j, none⟩ = some (.string (bs ps[j])) := by
  have := h.cell j (by simpa using hj)
  simpa using this
end Go.Proofs.YtcplnodfcchdhaaGreat

/-
  What a queue uses: in plain words; where the model looks for an application and for a text; walks over the dump.
-/
namespace Go.Proofs.YtcplnodfcchdhaaGreat
open Go.RowKit Go.Maps
set_option linter.unusedVariables false
/-- a container of an application whose queue is this one or below it -/
def byQ (s : St) (nm : List UInt8) (q : Con) : Bool := match findAp q.app s.apps with
  | none => false
  | some a => (path s.qs a.queue).any (fun x => decide (x = nm))
def usedByV (s : St) (nm : List UInt8) : Int × Int := ((sumR (usedL (byQ s nm) s.cs)).1, (sumR (usedL (byQ s nm) s.cs)).2.1)
set_option maxRecDepth 100000 in
set_option maxHeartbeats 1000000 in
theorem l04Has_any (v : Value) (ps : List (List UInt8)) (nm : List UInt8) (B : Nat) (w : World) (h : Texts B w v ps) (hl : ps.length ≤ 1048576) :
    Calls Tryz.prog 54 #[v, .string (bs nm)] w fun e w' => e = .returned (.bool (ps.any (fun x => decide (x = nm)))) ∧ w = w' := by
  obtain ⟨o, ho⟩ : ∃ o, ps.any (fun x => decide (x = nm)) = o := ⟨_, rfl⟩
  have HO := hide (show (ps.drop 0).any (fun x => decide (x = nm)) = o from ho)
  rw [ho]
  clear ho
  obtain ⟨ao, cap, rfl, HC⟩ : ∃ ao cap, v = .slice ao ps.length cap ∧ Hid (∀ j (hj : j < ps.length), ∃ g, ao = some ⟨g, 0, none⟩ ∧ w.cell? ⟨g, j, none⟩ = some (.string (bs ps[j]))) := by
    by_cases hp : ps = []
    · subst hp
      obtain ⟨a, cap, rfl⟩ := texts_none h
      exact ⟨a, cap, rfl, hide (fun j hj => by simp at hj)⟩
    · obtain ⟨g, cap, rfl, hs, _⟩ := texts_some h hp
      exact ⟨_, cap, rfl, hide (fun j hj => ⟨g, rfl, hs.text hj⟩)⟩
  clear h
  obtain ⟨n, hn⟩ : ∃ n, ps.length = n := ⟨_, rfl⟩
  rw [hn] at hl ⊢
  have HN := hide hn
  clear hn
  go_enter Tryz.func54, Tryz.ntmps54
  go_wp2
  go_loopw [5] (fun i wr => ∃ (k : Nat), k ≤ n ∧ i = .int .i64 k ∧ Hid ((ps.drop k).any (fun x => decide (x = nm)) = o) ∧ wr = w) (fun i _ => n - (intOf i).toNat)
  case atStart => exact ⟨0, Nat.zero_le _, rfl, HO, rfl⟩
  case round =>
    obtain ⟨k, hk, rfl, HQ, rfl⟩ := hrel
    by_cases hlt : k < n
    · have hkl : k < ps.length := by have := unhide HN; omega
      obtain ⟨g, rfl, c0⟩ := unhide HC k hkl
      have hst : (ps.drop k).any (fun x => decide (x = nm)) = (decide (ps[k] = nm) || (ps.drop (k + 1)).any (fun x => decide (x = nm))) := by rw [List.drop_eq_getElem_cons hkl, List.any_cons]
      rw [unhide HQ] at hst
      obtain ⟨s, hs⟩ : ∃ s, ps[k] = s := ⟨_, rfl⟩
      rw [hs] at c0 hst
      have hbe := bs_eq s nm
      clear hs hkl
      by_cases he : s = nm
      · rw [decide_eq_true he] at hbe hst
        have hot : o = true := by rw [hst]; rfl
        subst hot
        clear he hst
        go_wp2
        go_ret
        exact ⟨rfl, rfl⟩
      · rw [decide_eq_false he] at hbe hst
        have HN2 := hide (show (ps.drop (k + 1)).any (fun x => decide (x = nm)) = o by simpa using hst.symm)
        clear he hst
        go_wp2
        go_roundw
        case rel => exact ⟨k + 1, by omega, by go_num, HN2, trivial⟩
        case measure => simp [intOf]; omega
    · have hof : o = false := by rw [← unhide HQ, List.drop_of_length_le (by have := unhide HN; omega)]; rfl
      subst hof
      go_wp2
      go_ret
      exact ⟨rfl, rfl⟩
end Go.Proofs.YtcplnodfcchdhaaGreat
