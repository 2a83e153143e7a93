/-
  Several texts of this claim in one: ROwn, Caps, MarkN, Place, QSum, All, NameS, QueuesOkM, NewSt, BlM, ResI, Digit, Name (pack.py put them together); each says in its own remark what is proved.
-/
import Derived.Test.YtbkchepelhkjlaaGreatPackJ
import Derived.Test.YtbkchepelhkjlaaGreatStAll
import Derived.Laws.AppendOwn
import Derived.Test.YtbkchepelhkjlaaGreatPackB
import Derived.Test.YtbkchepelhkjlaaGreatPackC
import Derived.Test.YtbkchepelhkjlaaGreatPackH
import Derived.Test.YtbkchepelhkjlaaGreatPackA
import Derived.Test.YtbkchepelhkjlaaGreatPackE
import Derived.Deep.CutBlock
import Derived.Deep.CutRange
/-
 Lists of amounts: in memory, and such as a call gathers, one behind the other; their sum, plain words.
-/
namespace Go.Proofs.YtbkchepelhkjlaaGreat
open Go.RowKit
set_option linter.unusedVariables false
def RAt (w : World) (b p : Nat) (r : Int × Int) : Prop := w.cell? ⟨b, p, none⟩ = some (.int .i64 r.1) ∧ w.cell? ⟨b, p + 1, none⟩ = some (.int .i64 r.2)
def RRow (w : World) (ao : Option Addr) (len : Nat) (l : List (Int × Int)) : Prop :=
 len = l.length ∧ (len = 0 ∨ ∃ b off, ao = some ⟨b, off, none⟩ ∧ ∀ i (h : i < l.length), RAt w b (off + i * 2) l[i])
theorem RAt.lt {w : World} {b p : Nat} {r : Int × Int} (h : RAt w b p r) : b < w.heap.size := cell_lt h.1
theorem RAt.below {w w' : World} {b p : Nat} {r : Int × Int} (h : RAt w b p r) (hb : Below w.heap.size w w') : RAt w' b p r := ⟨(hb.cell h.lt).trans h.1, (hb.cell h.lt).trans h.2⟩
theorem RRow.below {w w' : World} {ao : Option Addr} {len : Nat} {l : List (Int × Int)} (h : RRow w ao len l) (hb : Below w.heap.size w w') : RRow w' ao len l := by
 obtain ⟨h1, h2⟩ := h
 refine ⟨h1, ?_⟩
 rcases h2 with h2 | ⟨b, off, h3, h4⟩
 ·exact .inl h2
 ·exact .inr ⟨b, off, h3, fun i h => (h4 i h).below hb⟩
theorem RRow.at {w : World} {ao : Option Addr} {len : Nat} {l : List (Int × Int)} (h : RRow w ao len l) {i : Nat} (hi : i < len) : ∃ b off, ao = some ⟨b, off, none⟩ ∧ ∀ (h : i < l.length), RAt w b (off + i * 2) l[i] := by
 obtain ⟨h1, h2⟩ := h
 rcases h2 with h2 | ⟨b, off, h3, h4⟩
 ·omega
 ·exact ⟨b, off, h3, fun hi => h4 i hi⟩
abbrev rcell (r : Int × Int) : List Value := [.int .i64 r.1, .int .i64 r.2]
def rcells : List (Int × Int) → List Value
 | [] => []
 | q :: t => rcell q ++ rcells t
theorem rcells_app (a : List (Int × Int)) (q : Int × Int) : rcells (a ++ [q]) = rcells a ++ rcell q := by
 induction a with
 | nil => rfl
 | cons x t ih => rw [List.cons_append, rcells, rcells, ih, List.append_assoc]
theorem rcells_at : ∀ (l : List (Int × Int)) (i : Nat) (h : i < l.length), (rcells l)[i * 2]? = some (.int .i64 l[i].1) ∧ (rcells l)[i * 2 + 1]? = some (.int .i64 l[i].2)
 | q :: t, 0, _ => ⟨rfl, rfl⟩
 | q :: t, i + 1, h => by
  have e := rcells_at t i (by simpa using h)
  have k : ∀ j, (rcells (q :: t))[(i + 1) * 2 + j]? = (rcells t)[i * 2 + j]? := fun j => by
   rw [rcells, show (i + 1) * 2 + j = (rcell q).length + (i * 2 + j) by simp; omega, List.getElem?_append_right (by omega)]
   congr 1
   omega
  have k0 := k 0
  simp only [Nat.add_zero] at k0
  rw [k0, k 1]
  simpa using e
/-- v is a list of these amounts, in memory of its own from block B on -/
def ROwn (B : Nat) (w : World) (v : Value) (l : List (Int × Int)) : Prop := w.ownsRow B 33 2 v l.length (rcells l)
theorem rown_nil (B : Nat) (w : World) : ROwn B w (.slice none 0 0) [] := World.ownsRow_nil _ _ _ _
theorem rown_empty (w : World) : ROwn w.heap.size (w.alloc (.cells #[] 33)) (.slice (some ⟨w.heap.size, 0, none⟩) 0 0) [] :=
 ⟨rfl, .inr ⟨w.heap.size, 0, #[], rfl, Nat.le_refl _, by show (w.heap.push _)[w.heap.size]? = _; simp, Nat.le_refl _, by unfold maxLen; omega, rfl, rfl⟩⟩
theorem ROwn.base {w : World} {B B' : Nat} {v : Value} {l : List (Int × Int)} (h : ROwn B w v l) (hb : B' ≤ B) : ROwn B' w v l := by
 obtain ⟨h1, h2⟩ := h
 refine ⟨h1, ?_⟩
 rcases h2 with h2 | ⟨g, cap, cur, a, b, c⟩
 ·exact .inl h2
 ·exact .inr ⟨g, cap, cur, a, Nat.le_trans hb b, c⟩
theorem ROwn.below {w w' : World} {B : Nat} {v : Value} {l : List (Int × Int)} (h : ROwn B w v l) (hb : Below w.heap.size w w') : ROwn B w' v l :=
 h.kept (grownBy_below (grownBy_refl w none) hb) (by by_cases e : v.ownBlock = none; exact .inl e; exact .inr e)
theorem ROwn.row {w : World} {B : Nat} {v : Value} {l : List (Int × Int)} (h : ROwn B w v l) : ∃ ao cap, v = .slice ao l.length cap ∧ RRow w ao l.length l ∧ l.length ≤ cap := by
 rcases h.2 with ⟨rfl, h0⟩ | ⟨g, cap, cur, rfl, h1, h2, h3, h4, h5, h6⟩
 ·exact ⟨none, 0, by rw [h0], ⟨rfl, .inl h0⟩, by omega⟩
 ·refine ⟨some ⟨g, 0, none⟩, cap, rfl, ⟨rfl, .inr ⟨g, 0, rfl, fun i hi => ?_⟩⟩, h3⟩
  obtain ⟨a, b⟩ := rcells_at l i hi
  have k : ∀ j (v : Value), j < l.length * 2 → (rcells l)[j]? = some v → w.cell? ⟨g, j, none⟩ = some v := fun j v hj hv => by
   rw [← h6, List.getElem?_take_of_lt hj] at hv
   simp [World.cell?, h2]
   simpa using hv
  unfold RAt
  rw [Nat.zero_add]
  exact ⟨k _ _ (by omega) a, k _ _ (by omega) b⟩
theorem rown_step {w wr w1 : World} {B : Nat} {v v' : Value} {l : List (Int × Int)} {q : Int × Int} {ob : Obj} (hb : Below B w wr) (hown : ROwn B wr v l)
  (h1 : w1.ownsRow B 33 2 v' (l.length + 1) (rcells l ++ rcell q)) (hg : (wr.alloc ob).grownBy w1 v.ownBlock) (hB : B ≤ wr.heap.size) :
  ROwn B w1 v' (l ++ [q]) ∧ Below B w w1 := by
 refine ⟨?_, (hb.alloc hB ob).grown hg (by simp; omega) ?_⟩
 ·unfold ROwn
  rw [rcells_app, List.length_append]
  exact h1
 ·intro k hk
  rcases hown.2 with ⟨rfl, _⟩ | ⟨g, cap, cur, rfl, hg', _⟩
  ·simp [Value.ownBlock] at hk
  ·simp [Value.ownBlock] at hk; omega
theorem Tryz.infoR : (Tryz.prog.info? 33).map (fun i => (i.zero, i.size, i.bytes)) = some (some (.agg #[.int .i64 0, .int .i64 0]), 2, 16) := by kernel_rfl

/-- what a list of amounts is together, and whether that is an amount -/
def sumFrom : List (Int × Int) → Int → Int → Int × Int × Bool
 | [], x, y => (x, y, true)
 | r :: t, x, y => if bothOk 1 x y r.1 r.2 = true then sumFrom t (x + 1 * r.1) (y + 1 * r.2) else (0, 0, false)
def sumR (l : List (Int × Int)) : Int × Int × Bool := sumFrom l 0 0
theorem sumFrom_step {l : List (Int × Int)} {k : Nat} (h : k < l.length) (x y : Int) : sumFrom (l.drop k) x y = if bothOk 1 x y l[k].1 l[k].2 = true then sumFrom (l.drop (k + 1)) (x + 1 * l[k].1) (y + 1 * l[k].2) else (0, 0, false) := by
 rw [List.drop_eq_getElem_cons h, sumFrom]
theorem sumFrom_end {l : List (Int × Int)} {k : Nat} (h : l.length ≤ k) (x y : Int) : sumFrom (l.drop k) x y = (x, y, true) := by
 rw [List.drop_of_length_le h]; rfl
end Go.Proofs.YtbkchepelhkjlaaGreat

/-
 What all machines can: the list of their Caps; the worlds behind a state's box.
-/
namespace Go.Proofs.YtbkchepelhkjlaaGreat
open Go.RowKit
set_option linter.unusedVariables false
def capsOf (l : List Mac) : List (Int × Int) := l.map (fun m => (m.mem, m.cpu))
theorem capsOf_step {l : List Mac} {k : Nat} (h : k < l.length) : capsOf (l.take (k + 1)) = capsOf (l.take k) ++ [(l[k].mem, l[k].cpu)] := by
 rw [List.take_succ_eq_append_getElem h, capsOf, List.map_append]; rfl

/-- the amounts of those containers that count -/
def usedL (p : Con → Bool) (l : List Con) : List (Int × Int) := (l.filter p).map (fun c => (c.mem, c.cpu))
theorem usedL_step {p : Con → Bool} {l : List Con} {k : Nat} (h : k < l.length) : usedL p (l.take (k + 1)) = if p l[k] = true then usedL p (l.take k) ++ [(l[k].mem, l[k].cpu)] else usedL p (l.take k) := by
 rw [List.take_succ_eq_append_getElem h]
 simp only [usedL, List.filter_append, List.map_append]
 by_cases hp : p l[k] = true <;> simp [hp]
/-- behind the box of a state and the result's variable -/
def capW (w : World) (c : Array Value) : World := (w.alloc (.cells c 29)).alloc (.cells #[.int .i64 0, .int .i64 0] 33)
theorem capW_size (w : World) (c : Array Value) : (capW w c).heap.size = w.heap.size + 1 + 1 := by simp only [capW, al_size]
theorem capW_below (w : World) (c : Array Value) : Below w.heap.size w (capW w c) := below_al (below_al (Below.refl _ w) _) _
theorem capW_var (w : World) (c : Array Value) : Var (capW w c) 33 (w.heap.size + 1) 0 0 := by
 have := var_new (w.alloc (.cells c 29)) 33 0 0
 rwa [al_size] at this
abbrev macobj (m : Mac) : Obj := .cells #[.string (bs m.name), .int .i64 m.mem, .int .i64 m.cpu, .int .i64 m.seen] 56

/-- behind the box of a state -/
def boxW (w : World) (c : Array Value) : World := w.alloc (.cells c 29)
theorem boxW_size (w : World) (c : Array Value) : (boxW w c).heap.size = w.heap.size + 1 := by simp only [boxW, al_size]
theorem boxW_below (w : World) (c : Array Value) : Below w.heap.size w (boxW w c) := below_al (Below.refl _ w) _
theorem boxW_blk (w : World) (c : Array Value) : Blk (boxW w c) w.heap.size c 29 := blk_new w c _
end Go.Proofs.YtbkchepelhkjlaaGreat

/-
 The laws' own marks at a state that has nothing but queues; walks over the dump.
-/
namespace Go.Proofs.YtbkchepelhkjlaaGreat
open Go.RowKit
set_option linter.unusedVariables false
/-- a state of queues alone, as memory and as what it says -/
abbrev newX (qo : Option Addr) (n c : Nat) : Sls := ⟨qo, n, c, none, 0, 0, none, 0, 0, none, 0, 0⟩
abbrev newSt (l : List Q) (ep nx se : Int) : St := ⟨l, 0, ep, nx, se, [], [], []⟩
theorem new_row {w : World} {qo : Option Addr} {n c : Nat} {l : List Q} (ep nx se : Int) (h : QRow w qo n l) : SRow w (newX qo n c) (newSt l ep nx se) := ⟨h, ⟨rfl, .inl rfl⟩, ⟨rfl, .inl rfl⟩, ⟨rfl, .inl rfl⟩⟩
theorem new_fit {l : List Q} (ep nx se : Int) (h : FitQ l) : FitSt (newSt l ep nx se) := ⟨h, ⟨by simp, by simp⟩, ⟨by simp, by simp⟩, ⟨by simp, by simp⟩⟩

end Go.Proofs.YtbkchepelhkjlaaGreat

/-
 Where a queue stands: what the model's l03Place answers; a walk over the dump.
-/
namespace Go.Proofs.YtbkchepelhkjlaaGreat
open Go.RowKit
set_option linter.unusedVariables false
set_option maxRecDepth 100000 in
set_option maxHeartbeats 1000000 in
theorem l03Place_any (ao : Option Addr) (len cap : Nat) (l : List Q) (nm : List UInt8) (w : World) (h : QRow w ao len l) (hl : len ≤ 1048576) :
  Calls Tryz.prog 91 #[.slice ao len cap, .string (bs nm)] w fun e w' => e = .returned (.int .i64 (place l nm)) ∧ w = w' := by
 have HR := hide h
 have HL := hide h.1
 clear h
 go_enter Tryz.func91, Tryz.ntmps91
 go_wp2
 go_loopw [5] (fun i wr => ∃ k : Nat, k ≤ len ∧ i = .int .i64 k ∧ Hid (place l nm = placeFrom nm (l.drop k) k) ∧ wr = w) (fun i _ => len - (intOf i).toNat)
 case atStart => exact ⟨0, Nat.zero_le _, rfl, hide (by simp [place]), rfl⟩
 case round =>
  obtain ⟨k, hk, rfl, hp, rfl⟩ := hrel
  by_cases hlt : k < len
  ·obtain ⟨b, off, rfl, hq⟩ := (unhide HR).at hlt
   have hkl : k < l.length := by have := unhide HL; omega
   have hst := hide (placeFrom_step (nm := nm) (l := l) (k := k) hkl)
   have hq0 := (hq hkl).1
   clear hq
   obtain ⟨s, hs⟩ : ∃ s, l[k].name = s := ⟨_, rfl⟩
   rw [hs] at hq0 hst
   have hbe := bs_eq s nm
   clear hs hkl
   by_cases he : s = nm
   ·have HE := hide he
    rw [decide_eq_true he] at hbe
    clear he
    go_wp2
    go_ret
    exact ⟨ret_int (by rw [unhide hp, unhide hst, if_pos (unhide HE)]), rfl⟩
   ·have HE := hide he
    rw [decide_eq_false he] at hbe
    clear he
    go_wp2
    go_roundw
    case rel => exact ⟨k + 1, by omega, by go_num, hide (by rw [unhide hp, unhide hst, if_neg (unhide HE)]), trivial⟩
    case measure => simp [intOf]; omega
  ·go_wp2
   go_ret
   exact ⟨ret_int (by rw [unhide hp, placeFrom_end (by have := unhide HL; omega)]), rfl⟩
end Go.Proofs.YtbkchepelhkjlaaGreat

/-
 What is due to the kids of a queue together: what the model's l03Sum answers; a walk over the dump.
-/
namespace Go.Proofs.YtbkchepelhkjlaaGreat
open Go.RowKit
set_option linter.unusedVariables false
/-- what is due together of those of that parent -/
def dueSum (nm : List UInt8) : List Q → Int
 | [] => 0
 | q :: t => (if q.parent = nm then q.due else 0) + dueSum nm t
/-- of the kids of a queue: the first one is nobody's kid -/
def kidsSum (l : List Q) (nm : List UInt8) : Int := dueSum nm (l.drop 1)
theorem dueSum_step {nm : List UInt8} {l : List Q} {k : Nat} (h : k < l.length) : dueSum nm (l.drop k) = (if l[k].parent = nm then l[k].due else 0) + dueSum nm (l.drop (k + 1)) := by
 rw [List.drop_eq_getElem_cons h, dueSum]
theorem dueSum_end {nm : List UInt8} {l : List Q} {k : Nat} (h : l.length ≤ k) : dueSum nm (l.drop k) = 0 := by
 rw [List.drop_of_length_le h]; rfl

set_option maxRecDepth 100000 in
set_option maxHeartbeats 1000000 in
theorem l03Sum_any (ao : Option Addr) (len cap : Nat) (l : List Q) (nm : List UInt8) (w : World) (h : QRow w ao len l) (hl : len ≤ 1048576) (hd : ∀ q ∈ l, 0 ≤ q.due ∧ q.due ≤ 10000) :
  Calls Tryz.prog 131 #[.slice ao len cap, .string (bs nm)] w fun e w' => e = .returned (.int .i64 (kidsSum l nm)) ∧ w = w' := by
 have HR := hide h
 have HL := hide h.1
 have HD := hide hd
 clear h hd
 go_enter Tryz.func131, Tryz.ntmps131
 go_wp2
 go_loopw [5, 6] (fun s i wr => ∃ (k : Nat) (a : Int), 1 ≤ k ∧ k ≤ len + 1 ∧ i = .int .i64 k ∧ s = .int .i64 a ∧ 0 ≤ a ∧ a ≤ 10000 * k ∧ Hid (kidsSum l nm = a + dueSum nm (l.drop k)) ∧ wr = w) (fun _ i _ => len + 1 - (intOf i).toNat)
 case atStart => exact ⟨1, 0, by omega, by omega, rfl, rfl, by omega, by omega, hide (by simp [kidsSum]), rfl⟩
 case round =>
  obtain ⟨k, a, hk1, hk, rfl, rfl, ha0, ha1, hp, rfl⟩ := hrel
  by_cases hlt : k < len
  ·obtain ⟨b, off, rfl, hq⟩ := (unhide HR).at hlt
   have hkl : k < l.length := by have := unhide HL; omega
   have hst := hide (dueSum_step (nm := nm) (l := l) (k := k) hkl)
   have hq1 := (hq hkl).2.1
   have hq2 := (hq hkl).2.2.1
   obtain ⟨d0, d1⟩ := unhide HD l[k] (List.getElem_mem _)
   clear hq
   obtain ⟨s, hs⟩ : ∃ s, l[k].parent = s := ⟨_, rfl⟩
   obtain ⟨d, hdd⟩ : ∃ d, l[k].due = d := ⟨_, rfl⟩
   rw [hs] at hq1 hst
   rw [hdd] at hq2 hst d0 d1
   have hbe := bs_eq s nm
   clear hs hdd hkl
   by_cases he : s = nm
   ·have HE := hide he
    rw [decide_eq_true he] at hbe
    clear he
    go_wp2
    go_roundw
    case rel => exact ⟨k + 1, a + d, by omega, by omega, by go_num, by go_num, by omega, by omega, hide (by rw [unhide hp, unhide hst, if_pos (unhide HE)]; omega), trivial⟩
    case measure => simp [intOf]; omega
   ·have HE := hide he
    rw [decide_eq_false he] at hbe
    clear he
    go_wp2
    go_roundw
    case rel => exact ⟨k + 1, a, by omega, by omega, by go_num, rfl, by omega, by omega, hide (by rw [unhide hp, unhide hst, if_neg (unhide HE)]; omega), trivial⟩
    case measure => simp [intOf]; omega
  ·go_wp2
   go_ret
   exact ⟨ret_int (by rw [unhide hp, dueSum_end (by have := unhide HL; omega)]; omega), rfl⟩
end Go.Proofs.YtbkchepelhkjlaaGreat

/-
 Properties of all bytes of a text.
-/
namespace Go.Proofs.YtbkchepelhkjlaaGreat
open Go.RowKit
theorem all_snoc (s : ByteArray) (k : Nat) (h : k < s.size) (p : UInt8 → Bool) (h1 : (s.data.toList.take k).all p = true) (h2 : p s[k] = true) : (s.data.toList.take (k + 1)).all p = true := by
 rw [take_snoc s k h, List.all_append, h1]; simpa using h2
theorem not_all (s : ByteArray) (k : Nat) (h : k < s.size) (p : UInt8 → Bool) (h2 : p s[k] = false) : s.data.toList.all p = false := by
 rw [List.all_eq_false]
 exact ⟨s[k], by simp [ByteArray.getElem_eq_getElem_data], by simp [h2]⟩
end Go.Proofs.YtbkchepelhkjlaaGreat

/-
 What the model's NameOk answers; a walk over the dump.
-/
namespace Go.Proofs.YtbkchepelhkjlaaGreat
open Go.RowKit
/-- a small letter or a digit -/
def nameB (c : UInt8) : Bool := inB c.toNat 97 122 || inB c.toNat 48 57
def nameOk (l : List UInt8) : Bool := inB l.length 1 10 && l.all nameB


set_option maxHeartbeats 800000 in
theorem specNameOk_any (s : ByteArray) (w : World) (hs : s.size ≤ 1048576) :
  Calls Tryz.prog 130 #[.string s] w fun e w' => e = .returned (.bool (nameOk s.data.toList)) ∧ w' = w := by
 go_enter Tryz.func130, Tryz.ntmps130
 go_wp2
 go_loop [3] (fun i => ∃ k : Nat, k ≤ s.size ∧ i = .int .i64 k ∧ (s.data.toList.take k).all nameB = true) (fun i => s.size - (intOf i).toNat)
 case atStart => exact ⟨0, Nat.zero_le _, rfl, by simp⟩
 case round =>
  obtain ⟨k, hk, rfl, hall⟩ := hrel
  have HA := hide hall
  clear hall
  by_cases hlt : k < s.size
  ·have hb : (s[k].toNat : Int) ≤ 255 := byte_le _
   by_cases h1 : 97 ≤ (s[k].toNat : Int) ∧ (s[k].toNat : Int) ≤ 122
   ·have e1 : inB (s[k].toNat : Int) 97 122 = true := inB_true h1.1 h1.2
    clear h1
    go_wp2_with (go_at_call 80; refine (l01In_any _ _ _ _).mono ?_; rintro e w' ⟨rfl, rfl⟩)
    go_round
    case rel => exact ⟨k + 1, by omega, by go_num, all_snoc s k hlt _ (unhide HA) (by simp [nameB, e1])⟩
    case measure => simp [intOf]; omega
   ·have e1 : inB (s[k].toNat : Int) 97 122 = false := inB_false h1
    clear h1
    by_cases h2 : 48 ≤ (s[k].toNat : Int) ∧ (s[k].toNat : Int) ≤ 57
    ·have e2 : inB (s[k].toNat : Int) 48 57 = true := inB_true h2.1 h2.2
     clear h2
     go_wp2_with (go_at_call 80; refine (l01In_any _ _ _ _).mono ?_; rintro e w' ⟨rfl, rfl⟩)
     go_round
     case rel => exact ⟨k + 1, by omega, by go_num, all_snoc s k hlt _ (unhide HA) (by simp [nameB, e1, e2])⟩
     case measure => simp [intOf]; omega
    ·have e2 : inB (s[k].toNat : Int) 48 57 = false := inB_false h2
     clear h2
     have hf : Hid (nameOk s.data.toList = false) := hide (by rw [nameOk, not_all s k hlt nameB (by simp [nameB, e1, e2])]; simp)
     go_wp2_with (go_at_call 80; refine (l01In_any _ _ _ _).mono ?_; rintro e w' ⟨rfl, rfl⟩)
     go_ret
     exact ⟨ret_bool (unhide hf).symm, rfl⟩
  ·have hf : Hid (nameOk s.data.toList = inB (s.size : Int) 1 10) := hide (by rw [nameOk, ← take_all s k (by omega), unhide HA, take_all s k (by omega), len_eq]; simp)
   go_wp2_with (go_at_call 80; refine (l01In_any _ _ _ _).mono ?_; rintro e w' ⟨rfl, rfl⟩)
   go_ret
   exact ⟨ret_bool (unhide hf).symm, rfl⟩
end Go.Proofs.YtbkchepelhkjlaaGreat

/-
 A tree of queues: what is asked of it, in plain words.
-/
namespace Go.Proofs.YtbkchepelhkjlaaGreat
open Go.RowKit
set_option linter.unusedVariables false
/-- a queue at place k of l is as it must be -/
def qOk (l : List Q) (k : Nat) (q : Q) : Bool :=
 nameOk q.name && decide (place l q.name = k) && inB q.most 0 10000 && inB q.due 0 q.most
  && (if k = 0 then decide (q.parent = []) && decide (q.due = 10000) else inB (place l q.parent) 0 ((k : Int) - 1))
def okFrom (l : List Q) : List Q → Nat → Bool
 | [], _ => true
 | q :: t, k => qOk l k q && okFrom l t (k + 1)
def sumsOk (l : List Q) : List Q → Bool
 | [] => true
 | q :: t => decide (kidsSum l q.name ≤ 10000) && sumsOk l t
def queuesOk (l : List Q) : Bool := okFrom l l 0 && sumsOk l l && inB l.length 1 20
theorem okFrom_step {l : List Q} {k : Nat} (h : k < l.length) : okFrom l (l.drop k) k = (qOk l k l[k] && okFrom l (l.drop (k + 1)) (k + 1)) := by
 rw [List.drop_eq_getElem_cons h, okFrom]
theorem okFrom_end {l : List Q} {k : Nat} (h : l.length ≤ k) : okFrom l (l.drop k) k = true := by
 rw [List.drop_of_length_le h]; rfl
theorem sumsOk_step {l : List Q} {k : Nat} (h : k < l.length) : sumsOk l (l.drop k) = (decide (kidsSum l l[k].name ≤ 10000) && sumsOk l (l.drop (k + 1))) := by
 rw [List.drop_eq_getElem_cons h, sumsOk]
theorem sumsOk_end {l : List Q} {k : Nat} (h : l.length ≤ k) : sumsOk l (l.drop k) = true := by
 rw [List.drop_of_length_le h]; rfl
theorem okFrom_due {l : List Q} : ∀ (m : List Q) (k : Nat), okFrom l m k = true → ∀ q ∈ m, 0 ≤ q.due ∧ q.due ≤ 10000
 | [], _, _, q, h => by simp at h
 | x :: t, k, h, q, hq => by
  rw [okFrom, Bool.and_eq_true] at h
  rcases List.mem_cons.1 hq with rfl | hq
  ·have := h.1
   simp only [qOk, inB, Bool.and_eq_true, decide_eq_true_eq] at this
   omega
  ·exact okFrom_due t (k + 1) h.2 q hq
theorem ok_no1 {l : List Q} (h : okFrom l l 0 = false) : queuesOk l = false := by simp [queuesOk, h]
theorem ok_no2 {l : List Q} (h : sumsOk l l = false) : queuesOk l = false := by simp [queuesOk, h]
theorem ok_yes {l : List Q} (h1 : okFrom l l 0 = true) (h2 : sumsOk l l = true) : queuesOk l = inB l.length 1 20 := by simp [queuesOk, h1, h2]
end Go.Proofs.YtbkchepelhkjlaaGreat

/-
 A new state, by the program and by the model: StateNew; walks over the dump. Of StateOk is asked what it answers of a state of queues alone.
-/
namespace Go.Proofs.YtbkchepelhkjlaaGreat
open Go.RowKit
set_option linter.unusedVariables false
set_option linter.unusedSimpArgs false
/-- what a call of StateNew ends with -/
def NewAns (w : World) (l : List Q) (e : Ending) (w' : World) : Prop := Below w.heap.size w w' ∧ (queuesOk l = false ∧ e = .returned (.tuple #[.agg #[.slice none 0 0, .int .i64 0, .int .i64 0, .int .i64 0, .int .i64 0, .slice none 0 0, .slice none 0 0, .slice none 0 0], .bool false]) ∨ queuesOk l = true ∧ ∃ v, e = .returned (.tuple #[.agg #[v, .int .i64 0, .int .i64 1, .int .i64 1001, .int .i64 1, .slice none 0 0, .slice none 0 0, .slice none 0 0], .bool true]) ∧ QOwn (w.heap.size + 1) w' v l)

set_option maxRecDepth 100000 in
set_option maxHeartbeats 4000000 in
theorem specStateNew_any (ao : Option Addr) (len cap : Nat) (l : List Q) (w : World) (h : QRow w ao len l) (hl : len ≤ 1048576) (hf : FitQ l) (ha : ∃ ad, ao = some ad)
  (CO : ∀ (qo : Option Addr) (n c : Nat) (wx : World), QRow wx qo n l → n ≤ c → Calls Tryz.prog 25 #[.agg #[.slice qo n c, .int .i64 0, .int .i64 1, .int .i64 1001, .int .i64 1, .slice none 0 0, .slice none 0 0, .slice none 0 0]] wx fun e w' => e = .returned (.bool (queuesOk l)) ∧ Below wx.heap.size wx w') :
  Calls Tryz.prog 16 #[.slice ao len cap] w (NewAns w l) := by
 obtain ⟨i0, hi, hz0, hz1, hz2⟩ := info_parts Tryz.infoQ
 obtain ⟨o, ho⟩ : ∃ o, queuesOk l = o := ⟨_, rfl⟩
 obtain ⟨ad, rfl⟩ := ha
 have hb1 := below_al (below_al (Below.refl _ w) (.cells #[.slice none 0 0, .int .i64 0, .int .i64 0, .int .i64 0, .int .i64 0, .slice none 0 0, .slice none 0 0, .slice none 0 0] 29)) (.cells #[] 59)
 have P0 := hide ((blk_new w #[.slice none 0 0, .int .i64 0, .int .i64 0, .int .i64 0, .int .i64 0, .slice none 0 0, .slice none 0 0, .slice none 0 0] 29).al (.cells #[] 59))
 have hnew : ∀ j u, (qcells l)[j]? = some u → ((w.alloc (.cells #[.slice none 0 0, .int .i64 0, .int .i64 0, .int .i64 0, .int .i64 0, .slice none 0 0, .slice none 0 0, .slice none 0 0] 29)).alloc (.cells #[] 59)).cell? (ad.add j) = some u := fun j u hj => by
  have hjl : j < l.length * 4 := by rw [← qcells_len]; exact (List.getElem?_eq_some_iff.1 hj).1
  rcases h.2 with h0 | ⟨b, off, e, _⟩
  ·have := h.1; omega
  ·cases e
   have := qcells_row (h.below hb1) j u hj
   rw [Lib.add_plain]
   exact this
 have HNW := hide hnew
 have HLN := hide h.1
 have HB1 := hide hb1
 have hown : ((w.alloc (.cells #[.slice none 0 0, .int .i64 0, .int .i64 0, .int .i64 0, .int .i64 0, .slice none 0 0, .slice none 0 0, .slice none 0 0] 29)).alloc (.cells #[] 59)).ownsRow (w.heap.size + 1) 59 4 (.slice (some ⟨w.heap.size + 1, 0, none⟩) 0 0) 0 [] := by
  have := qown_empty (w.alloc (.cells #[.slice none 0 0, .int .i64 0, .int .i64 0, .int .i64 0, .int .i64 0, .slice none 0 0, .slice none 0 0, .slice none 0 0] 29))
  rw [al_size] at this
  exact this
 have hll : (qcells l).length = len * 4 := by rw [qcells_len, h.1]
 have hone := qcells_one l
 have CS := hide (fun (qo : Option Addr) (n c : Nat) (wx : World) (hr : QRow wx qo n l) (hc : n ≤ c) => by have := CO qo n c wx hr hc; rw [ho] at this; exact this)
 have HOO := hide ho
 clear CO ho hf h hnew hb1
 go_enter Tryz.func16, Tryz.ntmps16
 go_wp2_with (at_builtin; refine wpList_append_own _ rfl _ _ 24 rfl (w.heap.size + 1) 59 i0 (.agg #[.string ByteArray.empty, .string ByteArray.empty, .int .i64 0, .int .i64 0]) 4 48 Tryz.underlying24 hi hz0 hz1 hz2 rfl (by decide) _ _ _ rfl hown ad len cap (qcells l) rfl hll (unhide HNW) hone ?c3 ?c4 ?c5 ?_)
 case c3 => unfold maxLen; omega
 case c4 => omega
 case c5 => simp
 intro v w2 hown' hgrow _
 have HO := hide (show QOwn (w.heap.size + 1) w2 v l by
  unfold QOwn
  rw [← unhide HLN]
  simpa using hown')
 have HB2 := hide (show Below w.heap.size w w2 from (unhide HB1).grown hgrow (by simp; omega) (fun k e => by simp [Value.ownBlock] at e; omega))
 have R0 := hide (show Blk w2 w.heap.size #[.slice none 0 0, .int .i64 0, .int .i64 0, .int .i64 0, .int .i64 0, .slice none 0 0, .slice none 0 0, .slice none 0 0] 29 from (hgrow.block _ (unhide P0).lt (by simp [Value.ownBlock])).trans (unhide P0))
 obtain ⟨qo, qc, rfl, hrow, hqc, _⟩ := qown_rowx (unhide HO)
 have HRW := hide (hrow.below (below_al (Below.refl _ w2) (.cells #[.slice qo l.length qc, .int .i64 0, .int .i64 1, .int .i64 1001, .int .i64 1, .slice none 0 0, .slice none 0 0, .slice none 0 0] 29)))
 have HB3 := hide (below_al (unhide HB2) (.cells #[.slice qo l.length qc, .int .i64 0, .int .i64 1, .int .i64 1001, .int .i64 1, .slice none 0 0, .slice none 0 0, .slice none 0 0] 29))
 have S1 := hide (blk_new w2 #[.slice qo l.length qc, .int .i64 0, .int .i64 1, .int .i64 1001, .int .i64 1, .slice none 0 0, .slice none 0 0, .slice none 0 0] 29)
 have S0 := hide ((unhide R0).al (.cells #[.slice qo l.length qc, .int .i64 0, .int .i64 1, .int .i64 1001, .int .i64 1, .slice none 0 0, .slice none 0 0, .slice none 0 0] 29))
 have HO3 := hide ((unhide HO).below (below_al (Below.refl _ w2) (.cells #[.slice qo l.length qc, .int .i64 0, .int .i64 1, .int .i64 1001, .int .i64 1, .slice none 0 0, .slice none 0 0, .slice none 0 0] 29)))
 clear hown' hgrow hown hone hll HB1 HB2 R0 P0 HO hrow HNW
 go_wp2_with fail
 refine (unhide CS qo l.length qc _ (unhide HRW) hqc).mono ?_
 rintro e w4 ⟨rfl, hb⟩
 have HB4 := hide (below_on (unhide HB3) hb)
 have T0 := hide ((unhide S0).below hb)
 have T1 := hide ((unhide S1).below hb)
 have HO4 := hide ((unhide HO3).below hb)
 clear hb HB3 S0 S1 HO3 HRW CS
 cases o
 case false =>
  have c0 := (unhide T0).at 0; have c1 := (unhide T0).at 1; have c2 := (unhide T0).at 2; have c3 := (unhide T0).at 3; have c4 := (unhide T0).at 4; have c5 := (unhide T0).at 5; have c6 := (unhide T0).at 6; have c7 := (unhide T0).at 7
  have rf0 := (unhide T0).f 0; have rf1 := (unhide T0).f 1; have rf2 := (unhide T0).f 2; have rf3 := (unhide T0).f 3; have rf4 := (unhide T0).f 4; have rf5 := (unhide T0).f 5; have rf6 := (unhide T0).f 6; have rf7 := (unhide T0).f 7
  simp at c0 c1 c2 c3 c4 c5 c6 c7
  go_wp2
  have HB9 := hide (below_sc (below_sc (below_sc (below_sc (below_sc (below_sc (below_sc (below_sc (unhide HB4) w.heap.size 0 (.slice none 0 0) (Nat.le_refl _)) w.heap.size 1 (.int .i64 0) (Nat.le_refl _)) w.heap.size 2 (.int .i64 0) (Nat.le_refl _)) w.heap.size 3 (.int .i64 0) (Nat.le_refl _)) w.heap.size 4 (.int .i64 0) (Nat.le_refl _)) w.heap.size 5 (.slice none 0 0) (Nat.le_refl _)) w.heap.size 6 (.slice none 0 0) (Nat.le_refl _)) w.heap.size 7 (.slice none 0 0) (Nat.le_refl _))
  have R9 := hide (show Blk ((((((((w4.setCell ⟨w.heap.size, 0, none⟩ (.slice none 0 0)).setCell ⟨w.heap.size, 1, none⟩ (.int .i64 0)).setCell ⟨w.heap.size, 2, none⟩ (.int .i64 0)).setCell ⟨w.heap.size, 3, none⟩ (.int .i64 0)).setCell ⟨w.heap.size, 4, none⟩ (.int .i64 0)).setCell ⟨w.heap.size, 5, none⟩ (.slice none 0 0)).setCell ⟨w.heap.size, 6, none⟩ (.slice none 0 0)).setCell ⟨w.heap.size, 7, none⟩ (.slice none 0 0)) w.heap.size #[.slice none 0 0, .int .i64 0, .int .i64 0, .int .i64 0, .int .i64 0, .slice none 0 0, .slice none 0 0, .slice none 0 0] 29 from (((((((((unhide T0).set 0 (.slice none 0 0)).set 1 (.int .i64 0)).set 2 (.int .i64 0)).set 3 (.int .i64 0)).set 4 (.int .i64 0)).set 5 (.slice none 0 0)).set 6 (.slice none 0 0)).set 7 (.slice none 0 0)))
  generalize ((((((((w4.setCell ⟨w.heap.size, 0, none⟩ (.slice none 0 0)).setCell ⟨w.heap.size, 1, none⟩ (.int .i64 0)).setCell ⟨w.heap.size, 2, none⟩ (.int .i64 0)).setCell ⟨w.heap.size, 3, none⟩ (.int .i64 0)).setCell ⟨w.heap.size, 4, none⟩ (.int .i64 0)).setCell ⟨w.heap.size, 5, none⟩ (.slice none 0 0)).setCell ⟨w.heap.size, 6, none⟩ (.slice none 0 0)).setCell ⟨w.heap.size, 7, none⟩ (.slice none 0 0)) = W9 at HB9 R9 ⊢
  have z0 := (unhide R9).at 0; have z1 := (unhide R9).at 1; have z2 := (unhide R9).at 2; have z3 := (unhide R9).at 3; have z4 := (unhide R9).at 4; have z5 := (unhide R9).at 5; have z6 := (unhide R9).at 6; have z7 := (unhide R9).at 7
  simp at z0 z1 z2 z3 z4 z5 z6 z7
  refine bodyPost_ret (v := .tuple #[.agg #[.slice none 0 0, .int .i64 0, .int .i64 0, .int .i64 0, .int .i64 0, .slice none 0 0, .slice none 0 0, .slice none 0 0], .bool false]) (by simp [results, Tryz.results16, go_sem, z0, z1, z2, z3, z4, z5, z6, z7]) rfl (show NewAns w l _ _ from ⟨unhide HB9, .inl ⟨unhide HOO, rfl⟩⟩)
 have a0 := (unhide T1).at 0; have a1 := (unhide T1).at 1; have a2 := (unhide T1).at 2; have a3 := (unhide T1).at 3; have a4 := (unhide T1).at 4; have a5 := (unhide T1).at 5; have a6 := (unhide T1).at 6; have a7 := (unhide T1).at 7
 have af0 := (unhide T1).f 0; have af1 := (unhide T1).f 1; have af2 := (unhide T1).f 2; have af3 := (unhide T1).f 3; have af4 := (unhide T1).f 4; have af5 := (unhide T1).f 5; have af6 := (unhide T1).f 6; have af7 := (unhide T1).f 7
 simp at a0 a1 a2 a3 a4 a5 a6 a7
 have c0 := (unhide T0).at 0; have c1 := (unhide T0).at 1; have c2 := (unhide T0).at 2; have c3 := (unhide T0).at 3; have c4 := (unhide T0).at 4; have c5 := (unhide T0).at 5; have c6 := (unhide T0).at 6; have c7 := (unhide T0).at 7
 have rf0 := (unhide T0).f 0; have rf1 := (unhide T0).f 1; have rf2 := (unhide T0).f 2; have rf3 := (unhide T0).f 3; have rf4 := (unhide T0).f 4; have rf5 := (unhide T0).f 5; have rf6 := (unhide T0).f 6; have rf7 := (unhide T0).f 7
 simp at c0 c1 c2 c3 c4 c5 c6 c7
 go_wp2
 have HB9 := hide (below_sc (below_sc (below_sc (below_sc (below_sc (below_sc (below_sc (below_sc (unhide HB4) w.heap.size 0 (.slice qo l.length qc) (Nat.le_refl _)) w.heap.size 1 (.int .i64 0) (Nat.le_refl _)) w.heap.size 2 (.int .i64 1) (Nat.le_refl _)) w.heap.size 3 (.int .i64 1001) (Nat.le_refl _)) w.heap.size 4 (.int .i64 1) (Nat.le_refl _)) w.heap.size 5 (.slice none 0 0) (Nat.le_refl _)) w.heap.size 6 (.slice none 0 0) (Nat.le_refl _)) w.heap.size 7 (.slice none 0 0) (Nat.le_refl _))
 have R9 := hide (show Blk ((((((((w4.setCell ⟨w.heap.size, 0, none⟩ (.slice qo l.length qc)).setCell ⟨w.heap.size, 1, none⟩ (.int .i64 0)).setCell ⟨w.heap.size, 2, none⟩ (.int .i64 1)).setCell ⟨w.heap.size, 3, none⟩ (.int .i64 1001)).setCell ⟨w.heap.size, 4, none⟩ (.int .i64 1)).setCell ⟨w.heap.size, 5, none⟩ (.slice none 0 0)).setCell ⟨w.heap.size, 6, none⟩ (.slice none 0 0)).setCell ⟨w.heap.size, 7, none⟩ (.slice none 0 0)) w.heap.size #[.slice qo l.length qc, .int .i64 0, .int .i64 1, .int .i64 1001, .int .i64 1, .slice none 0 0, .slice none 0 0, .slice none 0 0] 29 from (((((((((unhide T0).set 0 (.slice qo l.length qc)).set 1 (.int .i64 0)).set 2 (.int .i64 1)).set 3 (.int .i64 1001)).set 4 (.int .i64 1)).set 5 (.slice none 0 0)).set 6 (.slice none 0 0)).set 7 (.slice none 0 0)))
 have O9 := hide (qown_other (qown_other (qown_other (qown_other (qown_other (qown_other (qown_other (qown_other (unhide HO4) w.heap.size 0 (.slice qo l.length qc) (Nat.lt_succ_self _)) w.heap.size 1 (.int .i64 0) (Nat.lt_succ_self _)) w.heap.size 2 (.int .i64 1) (Nat.lt_succ_self _)) w.heap.size 3 (.int .i64 1001) (Nat.lt_succ_self _)) w.heap.size 4 (.int .i64 1) (Nat.lt_succ_self _)) w.heap.size 5 (.slice none 0 0) (Nat.lt_succ_self _)) w.heap.size 6 (.slice none 0 0) (Nat.lt_succ_self _)) w.heap.size 7 (.slice none 0 0) (Nat.lt_succ_self _))
 generalize ((((((((w4.setCell ⟨w.heap.size, 0, none⟩ (.slice qo l.length qc)).setCell ⟨w.heap.size, 1, none⟩ (.int .i64 0)).setCell ⟨w.heap.size, 2, none⟩ (.int .i64 1)).setCell ⟨w.heap.size, 3, none⟩ (.int .i64 1001)).setCell ⟨w.heap.size, 4, none⟩ (.int .i64 1)).setCell ⟨w.heap.size, 5, none⟩ (.slice none 0 0)).setCell ⟨w.heap.size, 6, none⟩ (.slice none 0 0)).setCell ⟨w.heap.size, 7, none⟩ (.slice none 0 0)) = W9 at HB9 R9 O9 ⊢
 have z0 := (unhide R9).at 0; have z1 := (unhide R9).at 1; have z2 := (unhide R9).at 2; have z3 := (unhide R9).at 3; have z4 := (unhide R9).at 4; have z5 := (unhide R9).at 5; have z6 := (unhide R9).at 6; have z7 := (unhide R9).at 7
 simp at z0 z1 z2 z3 z4 z5 z6 z7
 refine bodyPost_ret (v := .tuple #[.agg #[.slice qo l.length qc, .int .i64 0, .int .i64 1, .int .i64 1001, .int .i64 1, .slice none 0 0, .slice none 0 0, .slice none 0 0], .bool true]) (by simp [results, Tryz.results16, go_sem, z0, z1, z2, z3, z4, z5, z6, z7]) rfl (show NewAns w l _ _ from ⟨unhide HB9, .inr ⟨unhide HOO, _, rfl, unhide O9⟩⟩)
end Go.Proofs.YtbkchepelhkjlaaGreat

/-
 Texts by their bytes are in one order.
-/
namespace Go.Proofs.YtbkchepelhkjlaaGreat
open Go.RowKit
set_option linter.unusedVariables false
theorem bl_irr : ∀ a : List UInt8, Op.bytesLess a a = false
 | [] => rfl
 | c :: t => by simp [Op.bytesLess, bl_irr t]
theorem bl_trans : ∀ a b c : List UInt8, Op.bytesLess a b = true → Op.bytesLess b c = true → Op.bytesLess a c = true
 | _, [], _, h, _ => by simp [Op.bytesLess] at h
 | _, _ :: _, [], _, h => by simp [Op.bytesLess] at h
 | [], _ :: _, _ :: _, _, _ => by simp [Op.bytesLess]
 | x :: a, y :: b, z :: c, h, k => by
  simp only [Op.bytesLess, Bool.or_eq_true, Bool.and_eq_true, decide_eq_true_eq, beq_iff_eq] at h k ⊢
  rcases h with h | ⟨rfl, h⟩
  ·rcases k with k | ⟨rfl, k⟩
   ·exact .inl (UInt8.lt_trans h k)
   ·exact .inl h
  ·rcases k with k | ⟨rfl, k⟩
   ·exact .inl k
   ·exact .inr ⟨rfl, bl_trans a b c h k⟩
theorem bl_tri : ∀ a b : List UInt8, Op.bytesLess a b = false → a ≠ b → Op.bytesLess b a = true
 | [], [], _, h => absurd rfl h
 | [], _ :: _, h, _ => by simp [Op.bytesLess] at h
 | _ :: _, [], _, _ => by simp [Op.bytesLess]
 | x :: a, y :: b, h, k => by
  simp only [Op.bytesLess, Bool.or_eq_false_iff, Bool.and_eq_false_iff, decide_eq_false_iff_not, beq_eq_false_iff_ne] at h
  simp only [Op.bytesLess, Bool.or_eq_true, Bool.and_eq_true, decide_eq_true_eq, beq_iff_eq]
  by_cases hxy : x = y
  ·subst hxy
   right
   refine ⟨rfl, bl_tri a b ?_ (fun e => k (by rw [e]))⟩
   rcases h.2 with h2 | h2
   ·exact absurd rfl h2
   ·exact h2
  ·left
   have h1 := h.1
   have : x.toNat ≠ y.toNat := fun e => hxy (UInt8.toNat_inj.1 e)
   rw [UInt8.lt_iff_toNat_lt] at h1 ⊢
   omega
end Go.Proofs.YtbkchepelhkjlaaGreat

/-
 Amounts in the program: numberOk, the methods ok and orNothing, two at once; walks over the dump.
-/
namespace Go.Proofs.YtbkchepelhkjlaaGreat
open Go.RowKit
set_option linter.unusedVariables false
/-- two amounts at once -/
abbrev pv (a b c d : Int) : Value := .agg #[.int .i64 a, .int .i64 b, .int .i64 c, .int .i64 d]

set_option maxHeartbeats 400000 in
theorem numberOk_any (n : Int) (w : World) :
  Calls Tryz.prog 123 #[.int .i64 n] w fun e w' => e = .returned (.bool (inB n 0 1000000000)) ∧ w = w' := by
 by_cases h1 : 0 ≤ n
 ·by_cases h2 : n ≤ 1000000000
  ·go_enter Tryz.func123, Tryz.ntmps123
   go_wp2
   go_ret
   exact ⟨ret_bool (inB_true h1 h2).symm, rfl⟩
  ·go_enter Tryz.func123, Tryz.ntmps123
   go_wp2
   go_ret
   exact ⟨ret_bool (inB_false (by omega)).symm, rfl⟩
 ·go_enter Tryz.func123, Tryz.ntmps123
  go_wp2
  go_ret
  exact ⟨ret_bool (inB_false (by omega)).symm, rfl⟩

set_option maxRecDepth 100000 in
set_option maxHeartbeats 400000 in
theorem ok_any (a b : Int) (w : World) :
  Calls Tryz.prog 134 #[rv a b] w fun e w' => e = .returned (.bool (resOk a b)) ∧ w' = w.alloc (.cells #[.int .i64 a, .int .i64 b] 33) := by
 cases h1 : inB a 0 1000000000
 ·go_enter Tryz.func134, Tryz.ntmps134
  go_wp2_with (go_at_call 123; refine (numberOk_any _ _).mono ?_; rintro e w' ⟨rfl, rfl⟩)
  go_ret
  exact ⟨ret_bool (by simp [resOk, h1]), rfl⟩
 ·go_enter Tryz.func134, Tryz.ntmps134
  go_wp2_with (go_at_call 123; refine (numberOk_any _ _).mono ?_; rintro e w' ⟨rfl, rfl⟩)
  go_ret
  exact ⟨ret_bool (by simp [resOk, h1]), rfl⟩
theorem ok_bel (a b : Int) (w : World) :
  Calls Tryz.prog 134 #[rv a b] w fun e w' => e = .returned (.bool (resOk a b)) ∧ Below w.heap.size w w' :=
 (ok_any a b w).mono fun e w' h => ⟨h.1, by rw [h.2]; exact below_al (Below.refl _ _) _⟩
end Go.Proofs.YtbkchepelhkjlaaGreat

/-
 What the program's isDigit answers; a walk over the dump.
-/
namespace Go.Proofs.YtbkchepelhkjlaaGreat
open Go.RowKit
set_option maxHeartbeats 400000 in
theorem isDigit_any (x : Int) (w : World) :
  Calls Tryz.prog 165 #[.int .u8 x] w fun e w' => e = .returned (.bool (inB x 48 57)) ∧ w' = w := by
 by_cases h1 : 48 ≤ x
 ·by_cases h2 : x ≤ 57
  ·go_enter Tryz.func165, Tryz.ntmps165
   go_wp2
   go_ret
   exact ⟨ret_bool (inB_true h1 h2).symm, rfl⟩
  ·go_enter Tryz.func165, Tryz.ntmps165
   go_wp2
   go_ret
   exact ⟨ret_bool (inB_false (by omega)).symm, rfl⟩
 ·go_enter Tryz.func165, Tryz.ntmps165
  go_wp2
  go_ret
  exact ⟨ret_bool (inB_false (by omega)).symm, rfl⟩
end Go.Proofs.YtbkchepelhkjlaaGreat

/-
 What the program's NameOk answers: as the model's; a walk over the dump.
-/
namespace Go.Proofs.YtbkchepelhkjlaaGreat
open Go.RowKit
set_option maxHeartbeats 800000 in
theorem implNameOk_any (s : ByteArray) (w : World) (hs : s.size ≤ 1048576) :
  Calls Tryz.prog 127 #[.string s] w fun e w' => e = .returned (.bool (nameOk s.data.toList)) ∧ w' = w := by
 by_cases h0 : 1 ≤ s.size
 ·by_cases h1 : s.size ≤ 10
  ·have hin : Hid (inB (s.data.toList.length : Int) 1 10 = true) := hide (by rw [len_eq]; exact inB_true (by omega) (by omega))
   go_enter Tryz.func127, Tryz.ntmps127
   go_wp2
   go_loop [14] (fun i => ∃ k : Nat, k ≤ s.size ∧ i = .int .i64 k ∧ (s.data.toList.take k).all nameB = true) (fun i => s.size - (intOf i).toNat)
   case atStart => exact ⟨0, Nat.zero_le _, rfl, by simp⟩
   case round =>
    obtain ⟨k, hk, rfl, hall⟩ := hrel
    have HA := hide hall
    clear hall
    by_cases hlt : k < s.size
    ·have hb : (s[k].toNat : Int) ≤ 255 := byte_le _
     by_cases h3 : 48 ≤ (s[k].toNat : Int) ∧ (s[k].toNat : Int) ≤ 57
     ·have e1 : inB (s[k].toNat : Int) 48 57 = true := inB_true h3.1 h3.2
      clear h3
      go_wp2_with (go_at_call 165; refine (isDigit_any _ _).mono ?_; rintro e w' ⟨rfl, rfl⟩)
      go_round
      case rel => exact ⟨k + 1, by omega, by go_num, all_snoc s k hlt _ (unhide HA) (by simp [nameB, e1])⟩
      case measure => simp [intOf]; omega
     ·have e1 : inB (s[k].toNat : Int) 48 57 = false := inB_false h3
      clear h3
      by_cases h4 : 97 ≤ (s[k].toNat : Int)
      ·by_cases h5 : (s[k].toNat : Int) ≤ 122
       ·have HN : Hid (nameB s[k] = true) := hide (by simp [nameB, e1, inB_true h4 h5])
        go_wp2_with (go_at_call 165; refine (isDigit_any _ _).mono ?_; rintro e w' ⟨rfl, rfl⟩)
        go_round
        case rel => exact ⟨k + 1, by omega, by go_num, all_snoc s k hlt _ (unhide HA) (unhide HN)⟩
        case measure => simp [intOf]; omega
       ·have hf : Hid (nameOk s.data.toList = false) := hide (by rw [nameOk, not_all s k hlt nameB (by simp [nameB, e1, inB_false (x := (s[k].toNat : Int)) (a := 97) (b := 122) (by omega)])]; simp)
        go_wp2_with (go_at_call 165; refine (isDigit_any _ _).mono ?_; rintro e w' ⟨rfl, rfl⟩)
        go_ret
        exact ⟨ret_bool (unhide hf).symm, rfl⟩
      ·have hf : Hid (nameOk s.data.toList = false) := hide (by rw [nameOk, not_all s k hlt nameB (by simp [nameB, e1, inB_false (x := (s[k].toNat : Int)) (a := 97) (b := 122) (by omega)])]; simp)
       go_wp2_with (go_at_call 165; refine (isDigit_any _ _).mono ?_; rintro e w' ⟨rfl, rfl⟩)
       go_ret
       exact ⟨ret_bool (unhide hf).symm, rfl⟩
    ·have hf : Hid (nameOk s.data.toList = true) := hide (by rw [nameOk, unhide hin, ← take_all s k (by omega), unhide HA]; rfl)
     go_wp2
     go_ret
     exact ⟨ret_bool (unhide hf).symm, rfl⟩
  ·have hf : Hid (nameOk s.data.toList = false) := hide (by rw [nameOk, len_eq, inB_false (by omega)]; simp)
   go_enter Tryz.func127, Tryz.ntmps127
   go_wp2
   go_ret
   exact ⟨ret_bool (unhide hf).symm, rfl⟩
 ·have hf : Hid (nameOk s.data.toList = false) := hide (by rw [nameOk, len_eq, inB_false (by omega)]; simp)
  go_enter Tryz.func127, Tryz.ntmps127
  go_wp2
  go_ret
  exact ⟨ret_bool (unhide hf).symm, rfl⟩
end Go.Proofs.YtbkchepelhkjlaaGreat
