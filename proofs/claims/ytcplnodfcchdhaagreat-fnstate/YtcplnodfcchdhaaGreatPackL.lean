/-
  Several texts of this claim in one: ROwn, Caps, MarkN, Place, QSum, All, NameS, QueuesOkM (pack.py put them together); each says in its own remark what is proved.
-/
import Derived.Test.YtcplnodfcchdhaaGreatPackK
import Derived.Test.YtcplnodfcchdhaaGreatStAll
import Derived.Laws.AppendOwn
import Derived.Test.YtcplnodfcchdhaaGreatPackC
import Derived.Test.YtcplnodfcchdhaaGreatPackD
import Derived.Test.YtcplnodfcchdhaaGreatPackG
import Derived.Test.YtcplnodfcchdhaaGreatPackA
/-
  Lists of amounts: in memory, and such as a call gathers, one behind the other; their sum, plain words.
-/
namespace Go.Proofs.YtcplnodfcchdhaaGreat
open Go.RowKit
set_option linter.unusedVariables false
def RAt (w : World) (b p : Nat) (r : Int × Int) : Prop := w.cell? ⟨b, p, none⟩ = some (.int .i64 r.1) ∧ w.cell? ⟨b, p + 1, none⟩ = some (.int .i64 r.2)
def RRow (w : World) (ao : Option Addr) (len : Nat) (l : List (Int × Int)) : Prop :=
  len = l.length ∧ (len = 0 ∨ ∃ b off, ao = some ⟨b, off, none⟩ ∧ ∀ i (h : i < l.length), RAt w b (off + i * 2) l[i])
theorem RAt.lt {w : World} {b p : Nat} {r : Int × Int} (h : RAt w b p r) : b < w.heap.size := cell_lt h.1
theorem RAt.below {w w' : World} {b p : Nat} {r : Int × Int} (h : RAt w b p r) (hb : Below w.heap.size w w') : RAt w' b p r := ⟨(hb.cell h.lt).trans h.1, (hb.cell h.lt).trans h.2⟩
theorem RRow.below {w w' : World} {ao : Option Addr} {len : Nat} {l : List (Int × Int)} (h : RRow w ao len l) (hb : Below w.heap.size w w') : RRow w' ao len l := by
  obtain ⟨h1, h2⟩ := h
  refine ⟨h1, ?_⟩
  rcases h2 with h2 | ⟨b, off, h3, h4⟩
  · exact .inl h2
  · exact .inr ⟨b, off, h3, fun i h => (h4 i h).below hb⟩
theorem RRow.at {w : World} {ao : Option Addr} {len : Nat} {l : List (Int × Int)} (h : RRow w ao len l) {i : Nat} (hi : i < len) : ∃ b off, ao = some ⟨b, off, none⟩ ∧ ∀ (h : i < l.length), RAt w b (off + i * 2) l[i] := by
  obtain ⟨h1, h2⟩ := h
  rcases h2 with h2 | ⟨b, off, h3, h4⟩
  · omega
  · exact ⟨b, off, h3, fun hi => h4 i hi⟩
abbrev rcell (r : Int × Int) : List Value := [.int .i64 r.1, .int .i64 r.2]
def rcells : List (Int × Int) → List Value
  | [] => []
  | q :: t => rcell q ++ rcells t
theorem rcells_app (a : List (Int × Int)) (q : Int × Int) : rcells (a ++ [q]) = rcells a ++ rcell q := by
  induction a with
  | nil => rfl
  | cons x t ih => rw [List.cons_append, rcells, rcells, ih, List.append_assoc]
theorem rcells_at : ∀ (l : List (Int × Int)) (i : Nat) (h : i < l.length), (rcells l)[i * 2]? = some (.int .i64 l[i].1) ∧ (rcells l)[i * 2 + 1]? = some (.int .i64 l[i].2)
  | q :: t, 0, _ => ⟨rfl, rfl⟩
  | q :: t, i + 1, h => by
    have e := rcells_at t i (by simpa using h)
    have k : ∀ j, (rcells (q :: t))[(i + 1) * 2 + j]? = (rcells t)[i * 2 + j]? := fun j => by
      rw [rcells, show (i + 1) * 2 + j = (rcell q).length + (i * 2 + j) by simp; omega, List.getElem?_append_right (by omega)]
      congr 1
      omega
    have k0 := k 0
    simp only [Nat.add_zero] at k0
    rw [k0, k 1]
    simpa using e
/-- v is a list of these amounts, in memory of its own from block B on -/
def ROwn (B : Nat) (w : World) (v : Value) (l : List (Int × Int)) : Prop := w.ownsRow B 33 2 v l.length (rcells l)
theorem rown_nil (B : Nat) (w : World) : ROwn B w (.slice none 0 0) [] := World.ownsRow_nil _ _ _ _
theorem rown_empty (w : World) : ROwn w.heap.size (w.alloc (.cells #[] 33)) (.slice (some ⟨w.heap.size, 0, none⟩) 0 0) [] :=
  ⟨rfl, .inr ⟨w.heap.size, 0, #[], rfl, Nat.le_refl _, by show (w.heap.push _)[w.heap.size]? = _; simp, Nat.le_refl _, by unfold maxLen; omega, rfl, rfl⟩⟩
theorem ROwn.base {w : World} {B B' : Nat} {v : Value} {l : List (Int × Int)} (h : ROwn B w v l) (hb : B' ≤ B) : ROwn B' w v l := by
  obtain ⟨h1, h2⟩ := h
  refine ⟨h1, ?_⟩
  rcases h2 with h2 | ⟨g, cap, cur, a, b, c⟩
  · exact .inl h2
  · exact .inr ⟨g, cap, cur, a, Nat.le_trans hb b, c⟩
theorem ROwn.below {w w' : World} {B : Nat} {v : Value} {l : List (Int × Int)} (h : ROwn B w v l) (hb : Below w.heap.size w w') : ROwn B w' v l :=
  h.kept (grownBy_below (grownBy_refl w none) hb) (by by_cases e : v.ownBlock = none; exact .inl e; exact .inr e)
theorem ROwn.row {w : World} {B : Nat} {v : Value} {l : List (Int × Int)} (h : ROwn B w v l) : ∃ ao cap, v = .slice ao l.length cap ∧ RRow w ao l.length l ∧ l.length ≤ cap := by
  rcases h.2 with ⟨rfl, h0⟩ | ⟨g, cap, cur, rfl, h1, h2, h3, h4, h5, h6⟩
  · exact ⟨none, 0, by rw [h0], ⟨rfl, .inl h0⟩, by omega⟩
  · refine ⟨some ⟨g, 0, none⟩, cap, rfl, ⟨rfl, .inr ⟨g, 0, rfl, fun i hi => ?_⟩⟩, h3⟩
    obtain ⟨a, b⟩ := rcells_at l i hi
    have k : ∀ j (v : Value), j < l.length * 2 → (rcells l)[j]? = some v → w.cell? ⟨g, j, none⟩ = some v := fun j v hj hv => by
      rw [← h6, List.getElem?_take_of_lt hj] at hv
      simp [World.cell?, h2]
      simpa using hv
    unfold RAt
    rw [Nat.zero_add]
    exact ⟨k _ _ (by omega) a, k _ _ (by omega) b⟩
theorem rown_step {w wr w1 : World} {B : Nat} {v v' : Value} {l : List (Int × Int)} {q : Int × Int} {ob : Obj} (hb : Below B w wr) (hown : ROwn B wr v l)
    (h1 : w1.ownsRow B 33 2 v' (l.length + 1) (rcells l ++ rcell q)) (hg : (wr.alloc ob).grownBy w1 v.ownBlock) (hB : B ≤ wr.heap.size) :
    ROwn B w1 v' (l ++ [q]) ∧ Below B w w1 := by
  refine ⟨?_, (hb.alloc hB ob).grown hg (by simp; omega) ?_⟩
  · unfold ROwn
    rw [rcells_app, List.length_append]
    exact h1
  · intro k hk
    rcases hown.2 with ⟨rfl, _⟩ | ⟨g, cap, cur, rfl, hg', _⟩
    · simp [Value.ownBlock] at hk
    · simp [Value.ownBlock] at hk; omega
theorem Tryz.infoR : (Tryz.prog.info? 33).map (fun i => (i.zero, i.size, i.bytes)) = some (some (.agg #[.int .i64 0, .int .i64 0]), 2, 16) := by kernel_rfl

/-- what a list of amounts is together, and whether that is an amount -/
def sumFrom : List (Int × Int) → Int → Int → Int × Int × Bool
  | [], x, y => (x, y, true)
  | r :: t, x, y => if bothOk 1 x y r.1 r.2 = true then sumFrom t (x + 1 * r.1) (y + 1 * r.2) else (0, 0, false)
def sumR (l : List (Int × Int)) : Int × Int × Bool := sumFrom l 0 0
theorem sumFrom_step {l : List (Int × Int)} {k : Nat} (h : k < l.length) (x y : Int) : sumFrom (l.drop k) x y = if bothOk 1 x y l[k].1 l[k].2 = true then sumFrom (l.drop (k + 1)) (x + 1 * l[k].1) (y + 1 * l[k].2) else (0, 0, false) := by
  rw [List.drop_eq_getElem_cons h, sumFrom]
theorem sumFrom_end {l : List (Int × Int)} {k : Nat} (h : l.length ≤ k) (x y : Int) : sumFrom (l.drop k) x y = (x, y, true) := by
  rw [List.drop_of_length_le h]; rfl
end Go.Proofs.YtcplnodfcchdhaaGreat

/-
  What all machines can: the list of their Caps; the worlds behind a state's box.
-/
namespace Go.Proofs.YtcplnodfcchdhaaGreat
open Go.RowKit
set_option linter.unusedVariables false
def capsOf (l : List Mac) : List (Int × Int) := l.map (fun m => (m.mem, m.cpu))
theorem capsOf_step {l : List Mac} {k : Nat} (h : k < l.length) : capsOf (l.take (k + 1)) = capsOf (l.take k) ++ [(l[k].mem, l[k].cpu)] := by
  rw [List.take_succ_eq_append_getElem h, capsOf, List.map_append]; rfl

/-- the amounts of those containers that count -/
def usedL (p : Con → Bool) (l : List Con) : List (Int × Int) := (l.filter p).map (fun c => (c.mem, c.cpu))
theorem usedL_step {p : Con → Bool} {l : List Con} {k : Nat} (h : k < l.length) : usedL p (l.take (k + 1)) = if p l[k] = true then usedL p (l.take k) ++ [(l[k].mem, l[k].cpu)] else usedL p (l.take k) := by
  rw [List.take_succ_eq_append_getElem h]
  simp only [usedL, List.filter_append, List.map_append]
  by_cases hp : p l[k] = true <;> simp [hp]
/-- behind the box of a state and the result's variable -/
def capW (w : World) (c : Array Value) : World := (w.alloc (.cells c 29)).alloc (.cells #[.int .i64 0, .int .i64 0] 33)
theorem capW_size (w : World) (c : Array Value) : (capW w c).heap.size = w.heap.size + 1 + 1 := by simp only [capW, al_size]
theorem capW_below (w : World) (c : Array Value) : Below w.heap.size w (capW w c) := below_al (below_al (Below.refl _ w) _) _
theorem capW_var (w : World) (c : Array Value) : Var (capW w c) 33 (w.heap.size + 1) 0 0 := by
  have := var_new (w.alloc (.cells c 29)) 33 0 0
  rwa [al_size] at this
abbrev macobj (m : Mac) : Obj := .cells #[.string (bs m.name), .int .i64 m.mem, .int .i64 m.cpu, .int .i64 m.seen] 56

/-- behind the box of a state -/
def boxW (w : World) (c : Array Value) : World := w.alloc (.cells c 29)
theorem boxW_size (w : World) (c : Array Value) : (boxW w c).heap.size = w.heap.size + 1 := by simp only [boxW, al_size]
theorem boxW_below (w : World) (c : Array Value) : Below w.heap.size w (boxW w c) := below_al (Below.refl _ w) _
theorem boxW_blk (w : World) (c : Array Value) : Blk (boxW w c) w.heap.size c 29 := blk_new w c _
end Go.Proofs.YtcplnodfcchdhaaGreat

/-
  The laws' own marks at a state that has nothing but queues; walks over the dump.
-/
namespace Go.Proofs.YtcplnodfcchdhaaGreat
open Go.RowKit
set_option linter.unusedVariables false
/-- a state of queues alone, as memory and as what it says -/
abbrev newX (qo : Option Addr) (n c : Nat) : Sls := ⟨qo, n, c, none, 0, 0, none, 0, 0, none, 0, 0⟩
abbrev newSt (l : List Q) (ep nx se : Int) : St := ⟨l, 0, ep, nx, se, [], [], []⟩
theorem new_row {w : World} {qo : Option Addr} {n c : Nat} {l : List Q} (ep nx se : Int) (h : QRow w qo n l) : SRow w (newX qo n c) (newSt l ep nx se) := ⟨h, ⟨rfl, .inl rfl⟩, ⟨rfl, .inl rfl⟩, ⟨rfl, .inl rfl⟩⟩
theorem new_fit {l : List Q} (ep nx se : Int) (h : FitQ l) : FitSt (newSt l ep nx se) := ⟨h, ⟨by simp, by simp⟩, ⟨by simp, by simp⟩, ⟨by simp, by simp⟩⟩

end Go.Proofs.YtcplnodfcchdhaaGreat

/-
  Where a queue stands: what the model's l03Place answers; a walk over the dump.
-/
namespace Go.Proofs.YtcplnodfcchdhaaGreat
open Go.RowKit
set_option linter.unusedVariables false
set_option maxRecDepth 100000 in
set_option maxHeartbeats 1000000 in
theorem l03Place_any (ao : Option Addr) (len cap : Nat) (l : List Q) (nm : List UInt8) (w : World) (h : QRow w ao len l) (hl : len ≤ 1048576) :
    Calls Tryz.prog 78 #[.slice ao len cap, .string (bs nm)] w fun e w' => e = .returned (.int .i64 (place l nm)) ∧ w = w' := by
  have HR := hide h
  have HL := hide h.1
  clear h
  go_enter Tryz.func78, Tryz.ntmps78
  go_wp2
  go_loopw [5] (fun i wr => ∃ k : Nat, k ≤ len ∧ i = .int .i64 k ∧ Hid (place l nm = placeFrom nm (l.drop k) k) ∧ wr = w) (fun i _ => len - (intOf i).toNat)
  case atStart => exact ⟨0, Nat.zero_le _, rfl, hide (by simp [place]), rfl⟩
  case round =>
    obtain ⟨k, hk, rfl, hp, rfl⟩ := hrel
    by_cases hlt : k < len
    · obtain ⟨b, off, rfl, hq⟩ := (unhide HR).at hlt
      have hkl : k < l.length := by have := unhide HL; omega
      have hst := hide (placeFrom_step (nm := nm) (l := l) (k := k) hkl)
      have hq0 := (hq hkl).1
      clear hq
      obtain ⟨s, hs⟩ : ∃ s, l[k].name = s := ⟨_, rfl⟩
      rw [hs] at hq0 hst
      have hbe := bs_eq s nm
      clear hs hkl
      by_cases he : s = nm
      · have HE := hide he
        rw [decide_eq_true he] at hbe
        clear he
        go_wp2
        go_ret
        exact ⟨ret_int (by rw [unhide hp, unhide hst, if_pos (unhide HE)]), rfl⟩
      · have HE := hide he
        rw [decide_eq_false he] at hbe
        clear he
        go_wp2
        go_roundw
        case rel => exact ⟨k + 1, by omega, by go_num, hide (by rw [unhide hp, unhide hst, if_neg (unhide HE)]), trivial⟩
        case measure => simp [intOf]; omega
    · go_wp2
      go_ret
      exact ⟨ret_int (by rw [unhide hp, placeFrom_end (by have := unhide HL; omega)]), rfl⟩
end Go.Proofs.YtcplnodfcchdhaaGreat

/-
  What is due to the kids of a queue together: what the model's l03Sum answers; a walk over the dump.
-/
namespace Go.Proofs.YtcplnodfcchdhaaGreat
open Go.RowKit
set_option linter.unusedVariables false
/-- what is due together of those of that parent -/
def dueSum (nm : List UInt8) : List Q → Int
  | [] => 0
  | q :: t => (if q.parent = nm then q.due else 0) + dueSum nm t
/-- of the kids of a queue: the first one is nobody's kid -/
def kidsSum (l : List Q) (nm : List UInt8) : Int := dueSum nm (l.drop 1)
theorem dueSum_step {nm : List UInt8} {l : List Q} {k : Nat} (h : k < l.length) : dueSum nm (l.drop k) = (if l[k].parent = nm then l[k].due else 0) + dueSum nm (l.drop (k + 1)) := by
  rw [List.drop_eq_getElem_cons h, dueSum]
theorem dueSum_end {nm : List UInt8} {l : List Q} {k : Nat} (h : l.length ≤ k) : dueSum nm (l.drop k) = 0 := by
  rw [List.drop_of_length_le h]; rfl

set_option maxRecDepth 100000 in
set_option maxHeartbeats 1000000 in
theorem l03Sum_any (ao : Option Addr) (len cap : Nat) (l : List Q) (nm : List UInt8) (w : World) (h : QRow w ao len l) (hl : len ≤ 1048576) (hd : ∀ q ∈ l, 0 ≤ q.due ∧ q.due ≤ 10000) :
    Calls Tryz.prog 110 #[.slice ao len cap, .string (bs nm)] w fun e w' => e = .returned (.int .i64 (kidsSum l nm)) ∧ w = w' := by
  have HR := hide h
  have HL := hide h.1
  have HD := hide hd
  clear h hd
  go_enter Tryz.func110, Tryz.ntmps110
  go_wp2
  go_loopw [5, 6] (fun s i wr => ∃ (k : Nat) (a : Int), 1 ≤ k ∧ k ≤ len + 1 ∧ i = .int .i64 k ∧ s = .int .i64 a ∧ 0 ≤ a ∧ a ≤ 10000 * k ∧ Hid (kidsSum l nm = a + dueSum nm (l.drop k)) ∧ wr = w) (fun _ i _ => len + 1 - (intOf i).toNat)
  case atStart => exact ⟨1, 0, by omega, by omega, rfl, rfl, by omega, by omega, hide (by simp [kidsSum]), rfl⟩
  case round =>
    obtain ⟨k, a, hk1, hk, rfl, rfl, ha0, ha1, hp, rfl⟩ := hrel
    by_cases hlt : k < len
    · obtain ⟨b, off, rfl, hq⟩ := (unhide HR).at hlt
      have hkl : k < l.length := by have := unhide HL; omega
      have hst := hide (dueSum_step (nm := nm) (l := l) (k := k) hkl)
      have hq1 := (hq hkl).2.1
      have hq2 := (hq hkl).2.2.1
      obtain ⟨d0, d1⟩ := unhide HD l[k] (List.getElem_mem _)
      clear hq
      obtain ⟨s, hs⟩ : ∃ s, l[k].parent = s := ⟨_, rfl⟩
      obtain ⟨d, hdd⟩ : ∃ d, l[k].due = d := ⟨_, rfl⟩
      rw [hs] at hq1 hst
      rw [hdd] at hq2 hst d0 d1
      have hbe := bs_eq s nm
      clear hs hdd hkl
      by_cases he : s = nm
      · have HE := hide he
        rw [decide_eq_true he] at hbe
        clear he
        go_wp2
        go_roundw
        case rel => exact ⟨k + 1, a + d, by omega, by omega, by go_num, by go_num, by omega, by omega, hide (by rw [unhide hp, unhide hst, if_pos (unhide HE)]; omega), trivial⟩
        case measure => simp [intOf]; omega
      · have HE := hide he
        rw [decide_eq_false he] at hbe
        clear he
        go_wp2
        go_roundw
        case rel => exact ⟨k + 1, a, by omega, by omega, by go_num, rfl, by omega, by omega, hide (by rw [unhide hp, unhide hst, if_neg (unhide HE)]; omega), trivial⟩
        case measure => simp [intOf]; omega
    · go_wp2
      go_ret
      exact ⟨ret_int (by rw [unhide hp, dueSum_end (by have := unhide HL; omega)]; omega), rfl⟩
end Go.Proofs.YtcplnodfcchdhaaGreat

/-
  Properties of all bytes of a text.
-/
namespace Go.Proofs.YtcplnodfcchdhaaGreat
open Go.RowKit
theorem all_snoc (s : ByteArray) (k : Nat) (h : k < s.size) (p : UInt8 → Bool) (h1 : (s.data.toList.take k).all p = true) (h2 : p s[k] = true) : (s.data.toList.take (k + 1)).all p = true := by
  rw [take_snoc s k h, List.all_append, h1]; simpa using h2
theorem not_all (s : ByteArray) (k : Nat) (h : k < s.size) (p : UInt8 → Bool) (h2 : p s[k] = false) : s.data.toList.all p = false := by
  rw [List.all_eq_false]
  exact ⟨s[k], by simp [ByteArray.getElem_eq_getElem_data], by simp [h2]⟩
end Go.Proofs.YtcplnodfcchdhaaGreat

/-
  What the model's NameOk answers; a walk over the dump.
-/
namespace Go.Proofs.YtcplnodfcchdhaaGreat
open Go.RowKit
/-- a small letter or a digit -/
def nameB (c : UInt8) : Bool := inB c.toNat 97 122 || inB c.toNat 48 57
def nameOk (l : List UInt8) : Bool := inB l.length 1 10 && l.all nameB


set_option maxHeartbeats 800000 in
theorem specNameOk_any (s : ByteArray) (w : World) (hs : s.size ≤ 1048576) :
    Calls Tryz.prog 109 #[.string s] w fun e w' => e = .returned (.bool (nameOk s.data.toList)) ∧ w' = w := by
  go_enter Tryz.func109, Tryz.ntmps109
  go_wp2
  go_loop [3] (fun i => ∃ k : Nat, k ≤ s.size ∧ i = .int .i64 k ∧ (s.data.toList.take k).all nameB = true) (fun i => s.size - (intOf i).toNat)
  case atStart => exact ⟨0, Nat.zero_le _, rfl, by simp⟩
  case round =>
    obtain ⟨k, hk, rfl, hall⟩ := hrel
    have HA := hide hall
    clear hall
    by_cases hlt : k < s.size
    · have hb : (s[k].toNat : Int) ≤ 255 := byte_le _
      by_cases h1 : 97 ≤ (s[k].toNat : Int) ∧ (s[k].toNat : Int) ≤ 122
      · have e1 : inB (s[k].toNat : Int) 97 122 = true := inB_true h1.1 h1.2
        clear h1
        go_wp2_with (go_at_call 66; refine (l01In_any _ _ _ _).mono ?_; rintro e w' ⟨rfl, rfl⟩)
        go_round
        case rel => exact ⟨k + 1, by omega, by go_num, all_snoc s k hlt _ (unhide HA) (by simp [nameB, e1])⟩
        case measure => simp [intOf]; omega
      · have e1 : inB (s[k].toNat : Int) 97 122 = false := inB_false h1
        clear h1
        by_cases h2 : 48 ≤ (s[k].toNat : Int) ∧ (s[k].toNat : Int) ≤ 57
        · have e2 : inB (s[k].toNat : Int) 48 57 = true := inB_true h2.1 h2.2
          clear h2
          go_wp2_with (go_at_call 66; refine (l01In_any _ _ _ _).mono ?_; rintro e w' ⟨rfl, rfl⟩)
          go_round
          case rel => exact ⟨k + 1, by omega, by go_num, all_snoc s k hlt _ (unhide HA) (by simp [nameB, e1, e2])⟩
          case measure => simp [intOf]; omega
        · have e2 : inB (s[k].toNat : Int) 48 57 = false := inB_false h2
          clear h2
          have hf : Hid (nameOk s.data.toList = false) := hide (by rw [nameOk, not_all s k hlt nameB (by simp [nameB, e1, e2])]; simp)
          go_wp2_with (go_at_call 66; refine (l01In_any _ _ _ _).mono ?_; rintro e w' ⟨rfl, rfl⟩)
          go_ret
          exact ⟨ret_bool (unhide hf).symm, rfl⟩
    · have hf : Hid (nameOk s.data.toList = inB (s.size : Int) 1 10) := hide (by rw [nameOk, ← take_all s k (by omega), unhide HA, take_all s k (by omega), len_eq]; simp)
      go_wp2_with (go_at_call 66; refine (l01In_any _ _ _ _).mono ?_; rintro e w' ⟨rfl, rfl⟩)
      go_ret
      exact ⟨ret_bool (unhide hf).symm, rfl⟩
end Go.Proofs.YtcplnodfcchdhaaGreat

/-
  A tree of queues: what is asked of it, in plain words.
-/
namespace Go.Proofs.YtcplnodfcchdhaaGreat
open Go.RowKit
set_option linter.unusedVariables false
/-- a queue at place k of l is as it must be -/
def qOk (l : List Q) (k : Nat) (q : Q) : Bool :=
  nameOk q.name && decide (place l q.name = k) && inB q.most 0 10000 && inB q.due 0 q.most
    && (if k = 0 then decide (q.parent = []) && decide (q.due = 10000) else inB (place l q.parent) 0 ((k : Int) - 1))
def okFrom (l : List Q) : List Q → Nat → Bool
  | [], _ => true
  | q :: t, k => qOk l k q && okFrom l t (k + 1)
def sumsOk (l : List Q) : List Q → Bool
  | [] => true
  | q :: t => decide (kidsSum l q.name ≤ 10000) && sumsOk l t
def queuesOk (l : List Q) : Bool := okFrom l l 0 && sumsOk l l && inB l.length 1 20
theorem okFrom_step {l : List Q} {k : Nat} (h : k < l.length) : okFrom l (l.drop k) k = (qOk l k l[k] && okFrom l (l.drop (k + 1)) (k + 1)) := by
  rw [List.drop_eq_getElem_cons h, okFrom]
theorem okFrom_end {l : List Q} {k : Nat} (h : l.length ≤ k) : okFrom l (l.drop k) k = true := by
  rw [List.drop_of_length_le h]; rfl
theorem sumsOk_step {l : List Q} {k : Nat} (h : k < l.length) : sumsOk l (l.drop k) = (decide (kidsSum l l[k].name ≤ 10000) && sumsOk l (l.drop (k + 1))) := by
  rw [List.drop_eq_getElem_cons h, sumsOk]
theorem sumsOk_end {l : List Q} {k : Nat} (h : l.length ≤ k) : sumsOk l (l.drop k) = true := by
  rw [List.drop_of_length_le h]; rfl
theorem okFrom_due {l : List Q} : ∀ (m : List Q) (k : Nat), okFrom l m k = true → ∀ q ∈ m, 0 ≤ q.due ∧ q.due ≤ 10000
  | [], _, _, q, h => by simp at h
  | x :: t, k, h, q, hq => by
    rw [okFrom, Bool.and_eq_true] at h
    rcases List.mem_cons.1 hq with rfl | hq
    · have := h.1
      simp only [qOk, inB, Bool.and_eq_true, decide_eq_true_eq] at this
      omega
    · exact okFrom_due t (k + 1) h.2 q hq
theorem ok_no1 {l : List Q} (h : okFrom l l 0 = false) : queuesOk l = false := by simp [queuesOk, h]
theorem ok_no2 {l : List Q} (h : sumsOk l l = false) : queuesOk l = false := by simp [queuesOk, h]
theorem ok_yes {l : List Q} (h1 : okFrom l l 0 = true) (h2 : sumsOk l l = true) : queuesOk l = inB l.length 1 20 := by simp [queuesOk, h1, h2]
end Go.Proofs.YtcplnodfcchdhaaGreat
