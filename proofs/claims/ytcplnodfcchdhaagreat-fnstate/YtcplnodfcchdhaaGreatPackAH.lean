/-
  Several texts of this claim in one: OfM, RoomM, GatherI, PathI, BackI (pack.py put them together); each says in its own remark what is proved.
-/
import Derived.Test.YtcplnodfcchdhaaGreatPackO
import Derived.Test.YtcplnodfcchdhaaGreatPackAG
import Derived.Test.YtcplnodfcchdhaaGreatPackAC
import Derived.Test.YtcplnodfcchdhaaGreatPackW
import Derived.Test.YtcplnodfcchdhaaGreatAboveI
import Derived.Maps.AppendAt
import Derived.Test.YtcplnodfcchdhaaGreatPackE
/-
  What is due to a queue of a total, and the most that it may have: in plain words.
-/
namespace Go.Proofs.YtcplnodfcchdhaaGreat
open Go.RowKit
set_option linter.unusedVariables false
def fieldOf (most : Bool) (q : Q) : Int := if most then q.most else q.due
def byName (l : List Q) (n : List UInt8) : Q := l.getD (place l n).toNat ⟨[], [], 0, 0⟩
def ofP (l : List Q) (most : Bool) (t : Int × Int) : List (List UInt8) → Int × Int
  | [] => t
  | [_] => t
  | n :: m :: r => (shareM (ofP l most t (m :: r)).1 (ofP l most t (m :: r)).2 (fieldOf most (byName l n)), shareC (ofP l most t (m :: r)).1 (ofP l most t (m :: r)).2 (fieldOf most (byName l n)))
def ofR (l : List Q) (nm : List UInt8) (a b : Int) (most : Bool) : Int × Int := if path l nm = [] ∨ resOk a b = false then (0, 0) else ofP l most (a, b) (path l nm)
theorem ofP_last (l : List Q) (most : Bool) (t : Int × Int) {p : List (List UInt8)} (h : p ≠ []) : ofP l most t (p.drop (p.length - 1)) = t := by
  have hl : 0 < p.length := List.length_pos_iff.2 h
  rw [List.drop_eq_getElem_cons (by omega), show p.length - 1 + 1 = p.length by omega, List.drop_length]
  rfl
theorem ofP_step (l : List Q) (most : Bool) (t : Int × Int) {p : List (List UInt8)} {j : Nat} (h : j + 1 < p.length) :
    ofP l most t (p.drop j) = (shareM (ofP l most t (p.drop (j + 1))).1 (ofP l most t (p.drop (j + 1))).2 (fieldOf most (byName l p[j])), shareC (ofP l most t (p.drop (j + 1))).1 (ofP l most t (p.drop (j + 1))).2 (fieldOf most (byName l p[j]))) := by
  rw [List.drop_eq_getElem_cons (show j < p.length by omega), List.drop_eq_getElem_cons h, ofP]
theorem pathAt_names {l : List Q} (h : queuesOk l = true) : ∀ (n : Nat) (p : Int), ∀ x ∈ pathAt l n p, ∃ k : Nat, ∃ hk : k < l.length, place l x = k ∧ l[k].name = x
  | 0, _, x, hx => by simp [pathAt] at hx
  | n + 1, p, x, hx => by
    rw [pathAt] at hx
    split at hx
    · rename_i hp
      rcases List.mem_cons.1 hx with rfl | hx
      · refine ⟨p.toNat, hp.2, ?_, rfl⟩
        have := ok_at h p.toNat hp.2
        simp only [qOk, Bool.and_eq_true, decide_eq_true_eq] at this
        exact this.1.1.1.2
      · exact pathAt_names h n _ x hx
    · simp at hx
theorem path_names {l : List Q} {nm : List UInt8} : ∀ x ∈ path l nm, ∃ k : Nat, ∃ hk : k < l.length, place l x = k ∧ byName l x = l[k] := fun x hx => by
  unfold path at hx
  split at hx
  · rename_i h
    obtain ⟨k, hk, h1, h2⟩ := pathAt_names h _ _ x hx
    exact ⟨k, hk, h1, by rw [byName, h1]; simp [List.getD_eq_getElem?_getD, List.getElem?_eq_getElem hk]⟩
  · simp at hx
theorem pathAt_len {l : List Q} : ∀ (n : Nat) (p : Int), (pathAt l n p).length ≤ n
  | 0, _ => by simp [pathAt]
  | n + 1, p => by
    rw [pathAt]
    split
    · have := pathAt_len (l := l) n (place l l[p.toNat].parent); simp; exact this
    · simp
theorem path_len (l : List Q) (nm : List UInt8) : (path l nm).length ≤ l.length + 1 := by
  unfold path; split
  · exact pathAt_len _ _
  · simp
end Go.Proofs.YtcplnodfcchdhaaGreat

/-
  Whether a queue has room for an amount: in plain words; the two ways to ask are one.
-/
namespace Go.Proofs.YtcplnodfcchdhaaGreat
open Go.RowKit
set_option linter.unusedVariables false
def mostV (s : St) (x : List UInt8) : Int × Int := ofR s.qs x (totalV s).1 (totalV s).2 true
def roomAt (s : St) (rx ry : Int) (x : List UInt8) : Bool :=
  bothOk 1 (usedByV s x).1 (usedByV s x).2 rx ry && within ((usedByV s x).1 + 1 * rx) ((usedByV s x).2 + 1 * ry) (mostV s x).1 (mostV s x).2
def roomV (s : St) (nm : List UInt8) (rx ry : Int) : Bool := decide (0 < (path s.qs nm).length) && (path s.qs nm).all (roomAt s rx ry)
/-- what is left on a path, and whether there is such -/
def leftFrom (s : St) : List (List UInt8) → Int → Int → Int × Int × Bool
  | [], a, b => (a, b, true)
  | x :: t, a, b => if bothOk (-1) (mostV s x).1 (mostV s x).2 (usedByV s x).1 (usedByV s x).2 = true then leftFrom s t (min a ((mostV s x).1 + -1 * (usedByV s x).1)) (min b ((mostV s x).2 + -1 * (usedByV s x).2)) else (0, 0, false)
theorem leftFrom_step {s : St} {l : List (List UInt8)} {k : Nat} (h : k < l.length) (a b : Int) : leftFrom s (l.drop k) a b = if bothOk (-1) (mostV s l[k]).1 (mostV s l[k]).2 (usedByV s l[k]).1 (usedByV s l[k]).2 = true then leftFrom s (l.drop (k + 1)) (min a ((mostV s l[k]).1 + -1 * (usedByV s l[k]).1)) (min b ((mostV s l[k]).2 + -1 * (usedByV s l[k]).2)) else (0, 0, false) := by
  rw [List.drop_eq_getElem_cons h, leftFrom]
theorem leftFrom_end {s : St} {l : List (List UInt8)} {k : Nat} (h : l.length ≤ k) (a b : Int) : leftFrom s (l.drop k) a b = (a, b, true) := by
  rw [List.drop_of_length_le h]; rfl
theorem room_yes (m1 m2 u1 u2 rx ry : Int) (hr : resOk rx ry = true) (hb : bothOk (-1) m1 m2 u1 u2 = true) : (bothOk 1 u1 u2 rx ry && within (u1 + 1 * rx) (u2 + 1 * ry) m1 m2) = (decide (rx ≤ m1 + -1 * u1) && decide (ry ≤ m2 + -1 * u2)) := by
  rw [Bool.eq_iff_iff]
  simp only [bothOk, within, resOk, inB, Bool.and_eq_true, decide_eq_true_eq] at hr hb ⊢
  omega
theorem room_no (m1 m2 u1 u2 rx ry : Int) (hr : resOk rx ry = true) (hb : bothOk (-1) m1 m2 u1 u2 = false) : (bothOk 1 u1 u2 rx ry && within (u1 + 1 * rx) (u2 + 1 * ry) m1 m2) = false := by
  rw [Bool.eq_false_iff] at hb ⊢
  intro h
  apply hb
  simp only [bothOk, within, resOk, inB, Bool.and_eq_true, decide_eq_true_eq] at hr h ⊢
  omega
theorem roomAt_yes {s : St} {rx ry : Int} {x : List UInt8} (hr : resOk rx ry = true) (hb : bothOk (-1) (mostV s x).1 (mostV s x).2 (usedByV s x).1 (usedByV s x).2 = true) : roomAt s rx ry x = (decide (rx ≤ (mostV s x).1 + -1 * (usedByV s x).1) && decide (ry ≤ (mostV s x).2 + -1 * (usedByV s x).2)) := room_yes _ _ _ _ _ _ hr hb
theorem roomAt_no {s : St} {rx ry : Int} {x : List UInt8} (hr : resOk rx ry = true) (hb : bothOk (-1) (mostV s x).1 (mostV s x).2 (usedByV s x).1 (usedByV s x).2 = false) : roomAt s rx ry x = false := room_no _ _ _ _ _ _ hr hb
theorem room_left {s : St} {rx ry : Int} (hr : resOk rx ry = true) : ∀ (ps : List (List UInt8)) (a b : Int), resOk a b = true → ((leftFrom s ps a b).2.2 && within rx ry (leftFrom s ps a b).1 (leftFrom s ps a b).2.1) = (decide (rx ≤ a) && decide (ry ≤ b) && ps.all (roomAt s rx ry))
  | [], a, b, h => by rw [Bool.eq_iff_iff]; simp [leftFrom, within, hr, h]; exact ⟨fun h => ⟨of_decide_eq_true h.1, of_decide_eq_true h.2⟩, fun h => ⟨decide_eq_true h.1, decide_eq_true h.2⟩⟩
  | x :: t, a, b, h => by
    rw [leftFrom, List.all_cons]
    cases hb : bothOk (-1) (mostV s x).1 (mostV s x).2 (usedByV s x).1 (usedByV s x).2 with
    | true =>
      rw [if_pos rfl, room_left hr t _ _ ?_, roomAt_yes hr hb]
      · rw [Bool.eq_iff_iff]
        simp only [Bool.and_eq_true, decide_eq_true_eq]
        constructor
        · rintro ⟨⟨h1, h2⟩, h3⟩
          exact ⟨⟨by omega, by omega⟩, ⟨by omega, by omega⟩, h3⟩
        · rintro ⟨⟨h1, h2⟩, ⟨h3, h4⟩, h5⟩
          exact ⟨⟨by omega, by omega⟩, h5⟩
      · simp only [bothOk, resOk, inB, Bool.and_eq_true, decide_eq_true_eq] at h hb ⊢
        omega
    | false =>
      rw [if_neg (by simp), roomAt_no hr hb]
      simp
theorem room_eq (s : St) (nm : List UInt8) (rx ry : Int) : roomV s nm rx ry = ((leftFrom s (path s.qs nm) 1000000000 1000000000).2.2 && decide (0 < (path s.qs nm).length) && within rx ry (leftFrom s (path s.qs nm) 1000000000 1000000000).1 (leftFrom s (path s.qs nm) 1000000000 1000000000).2.1) := by
  rw [roomV]
  cases hr : resOk rx ry with
  | false =>
    have h1 : ∀ a b, within rx ry a b = false := fun a b => by rw [within, hr]; rfl
    rw [h1, Bool.and_false]
    cases hp : path s.qs nm with
    | nil => simp
    | cons x t =>
      have h2 : roomAt s rx ry x = false := by rw [roomAt, bothOk, hr]; simp
      simp [h2]
  | true =>
    have e := room_left (s := s) hr (path s.qs nm) 1000000000 1000000000 (by decide)
    have hr' := hr
    simp only [resOk, inB, Bool.and_eq_true, decide_eq_true_eq] at hr'
    rw [decide_eq_true (show rx ≤ 1000000000 by omega), decide_eq_true (show ry ≤ 1000000000 by omega)] at e
    simp only [Bool.true_and] at e
    rw [← e]
    cases (leftFrom s (path s.qs nm) 1000000000 1000000000).2.2 <;> simp [Bool.and_comm]
/-- behind the box of a state and that of an amount -/
def roomW (w : World) (c : Array Value) (rx ry : Int) : World := (w.alloc (.cells c 29)).alloc (.cells #[.int .i64 rx, .int .i64 ry] 33)
theorem roomW_below (w : World) (c : Array Value) (rx ry : Int) : Below w.heap.size w (roomW w c rx ry) := below_al (below_al (Below.refl _ w) _) _
theorem roomW_box (w : World) (c : Array Value) (rx ry : Int) : Blk (roomW w c rx ry) w.heap.size c 29 := (blk_new w c _).al _
theorem roomW_var (w : World) (c : Array Value) (rx ry : Int) : Var (roomW w c rx ry) 33 (w.heap.size + 1) rx ry := by
  have := var_new (w.alloc (.cells c 29)) 33 rx ry
  rwa [al_size] at this
end Go.Proofs.YtcplnodfcchdhaaGreat

/-
  What a round of a range over a function gathers in a list: one element more.
-/
namespace Go.Proofs.YtcplnodfcchdhaaGreat
open Go.RowKit Go.Shelf
set_option linter.unusedVariables false
/-- a queue's variable is no row of another type -/
theorem qbox_row {w w1 : World} {k : Nat} {q : Q} (h : QBox w k q) {base size n e : Nat} {v : Value} {xs : List Value} (hr : w.ownsRow base e size v n xs) (he : e ≠ 59) (hg : w.grownBy w1 v.ownBlock) : QBox w1 k q := by
  refine (hg.block k h.lt ?_).trans h
  rcases hr.2 with ⟨rfl, _⟩ | ⟨g, cap, cur, rfl, _, hgb, _⟩
  · simp [Value.ownBlock]
  · intro e'
    obtain rfl : k = g := by simpa [Value.ownBlock] using e'
    have := (show w.heap[k]? = _ from h).symm.trans hgb
    simp [qobj] at this
    exact he this.2.symm
theorem qbox_store {w : World} {k B t : Nat} {q : Q} {v u : Value} (h : QBox w k q) (hv : Go.Boxed w B t v) : QBox (w.setCell ⟨B, 0, none⟩ u) k q := by
  refine ((grownBy_setCell' w B u).block k h.lt ?_).trans h
  intro e'
  obtain rfl : k = B := by simpa using e'
  have := (show w.heap[k]? = _ from h).symm.trans hv
  simp [qobj] at this
theorem boxed_below {w w' : World} {B t : Nat} {v : Value} (h : Go.Boxed w B t v) (hb : Below w.heap.size w w') : Go.Boxed w' B t v := (hb.block B h.lt).trans h
theorem keeps_below {w w' : World} (hb : Below w.heap.size w w') : KeepsOthers w w' := KeepsOthers.of_grownBy (row := none) (grownBy_below (grownBy_refl w none) hb) (fun j o e => by cases e)

theorem row_below {w w' : World} {B e size n : Nat} {v : Value} {xs : List Value} (h : w.ownsRow B e size v n xs) (hb : Below w.heap.size w w') : w'.ownsRow B e size v n xs :=
  h.kept (grownBy_below (grownBy_refl w none) hb) (by by_cases e : v.ownBlock = none; exact .inl e; exact .inr e)
theorem gather_step (T E : TypeId) (z : Value) (bytes : Nat) (i0 : TypeInfo) (hu : Tryz.prog.underlying T = some (.slice E)) (hi : Tryz.prog.info? E = some i0) (hz0 : i0.zero = some z) (hz1 : i0.size = 1) (hz2 : i0.bytes = bytes) (hzc : z.cells.size = 1) (hTE : T ≠ E) (hEQ : E ≠ 59) (hby : bytes ≤ 16)
    {base B n : Nat} {v : Value} {xs : List Value} {w3 : World} (hv : Go.Boxed w3 B T v) (hr : w3.ownsRow base E 1 v n xs) (hn : n ≤ 1048576) (hbase : base ≤ w3.heap.size) (hB : base ≤ B) (y : Value) (hy : y.oneCell' = true) :
    ∃ g cp w4, (Builtin.append_ #[T, T] T #[v, .slice (some ⟨w3.heap.size, 0, none⟩) 1 1]).run Tryz.prog (w3.alloc (.cells #[y] E)) = .ok (.slice (some ⟨g, 0, none⟩) (n + 1) cp) w4 ∧ w4.cell? ⟨B, 0, none⟩ = some v ∧ w4.frozen? ⟨B, 0, none⟩ = false
      ∧ Hid (Go.Boxed (w4.setCell ⟨B, 0, none⟩ (.slice (some ⟨g, 0, none⟩) (n + 1) cp)) B T (.slice (some ⟨g, 0, none⟩) (n + 1) cp) ∧ (w4.setCell ⟨B, 0, none⟩ (.slice (some ⟨g, 0, none⟩) (n + 1) cp)).ownsRow base E 1 (.slice (some ⟨g, 0, none⟩) (n + 1) cp) (n + 1) (xs ++ [y])
        ∧ KeepsOthers w3 (w4.setCell ⟨B, 0, none⟩ (.slice (some ⟨g, 0, none⟩) (n + 1) cp)) ∧ Below base w3 (w4.setCell ⟨B, 0, none⟩ (.slice (some ⟨g, 0, none⟩) (n + 1) cp)) ∧ ∀ k q, QBox w3 k q → QBox (w4.setCell ⟨B, 0, none⟩ (.slice (some ⟨g, 0, none⟩) (n + 1) cp)) k q) := by
  have h16 : (n + 1) * bytes ≤ 140737488355328 := by
    have : (n + 1) * bytes ≤ 1048577 * 16 := Nat.mul_le_mul (by omega) hby
    omega
  obtain ⟨v', w4, hrun, hown', hgrow, _⟩ := run_append_own (P := Tryz.prog) (w3.alloc (.cells #[y] E)) base T T E i0 z 1 bytes hu hi hz0 hz1 hz2 hzc (by decide) v n xs (hr.alloc _) ⟨w3.heap.size, 0, none⟩ 1 1 [y] rfl
    (by intro j u hj; match j, hj with | 0, hj => simp at hj; subst hj; simp [Addr.add]) (by intro u hu; simp at hu; subst hu; exact hy) (by unfold maxLen; omega) h16 (by simp; omega)
  obtain ⟨g, cp, rfl⟩ := ownsRow_succ hown'
  obtain ⟨hv1, hv2, hr2, hk2, hb2⟩ := hv.appended hTE hr hbase hB hown' hgrow
  refine ⟨g, cp, w4, hrun, hv1.cell, hv1.frozen, hide ⟨hv2, hr2, hk2, hb2, fun k q hq => ?_⟩⟩
  have h1 : QBox (w3.alloc (.cells #[y] E)) k q := hq.below (below_al (Below.refl _ w3) _)
  exact qbox_store (qbox_row h1 (hr.alloc _) hEQ hgrow) hv1
end Go.Proofs.YtcplnodfcchdhaaGreat

/-
  The queue, its parent, and so on up to the first one: what the program's Path answers; a walk over the dump.
-/
namespace Go.Proofs.YtcplnodfcchdhaaGreat
open Go.RowKit Go.Shelf
set_option linter.unusedVariables false
attribute [local go_sem] Oper.semAt_some

set_option maxRecDepth 100000 in
set_option maxHeartbeats 4000000 in
theorem implPath_any (ao : Option Addr) (len cap : Nat) (l : List Q) (nm : List UInt8) (w : World) (h : QRow w ao len l) (hl : len ≤ 1048576) (hn : ∀ q ∈ l, q.name.length ≤ 1048576) (hc : len ≤ cap) :
    Calls Tryz.prog 98 #[.slice ao len cap, .string (bs nm)] w fun e w' => ∃ v, e = .returned v ∧ Texts w.heap.size w' v (path l nm) ∧ Below w.heap.size w w' := by
  obtain ⟨i0, hi, hz0, hz1, hz2⟩ := info_parts Tryz.infoS
  have HR := hide h
  have HL := hide h.1
  have CQ := hide (implQueuesOk_any ao len cap l w h hl hn hc)
  have HN := hide hn
  have HP := hide (fun ho : queuesOk l = true => ups_path ho nm)
  have HZ := hide (show queuesOk l = false → path l nm = [] by intro e; rw [path, e]; rfl)
  obtain ⟨o, ho⟩ : ∃ o, queuesOk l = o := ⟨_, rfl⟩
  rw [ho] at CQ HP HZ
  clear ho hn h
  have hmx : Tryz.prog.follows .mixedOrders = true := by kernel_rfl
  refine (callsIn_wide (n := 3)).1 ?_
  refine callsIn_of_wp_marks Tryz.func98 rfl trivial ?_ rfl
  simp only [Tryz.ntmps98, List.size_toArray, List.length_cons, List.length_nil, Nat.reduceAdd, Nat.reduceSub, Array.replicate_succ, Array.replicate_zero, List.push_toArray, List.append_toArray, List.nil_append, List.cons_append]
  gi_wp2_with fail
  refine ⟨trivial, ?_⟩
  first | refine ⟨(by intro e; cases e), ?_⟩ | skip
  refine (callsIn_wide.2 (unhide CQ)).mono ?_
  rintro e w1 ⟨rfl, hb⟩
  have HB1 := hide hb
  clear hb CQ
  cases o with
  | false =>
    have hz := unhide HZ (by first | rfl | trivial)
    gi_wp2
    exact ⟨_, results_tmp rfl _ _ _, _, rfl, Texts.of (o := []) (World.ownsRow_nil _ _ _ _) (by rw [hz]; rfl), unhide HB1⟩
  | true =>
    have hpa := unhide HP (by first | rfl | trivial)
    have HPA := hide hpa
    have HBo := hide (((Go.Boxed.new w1 90 (.slice none 0 0)).alloc (.cells #[.slice ao len cap] 24)).alloc (.cells #[.string (bs nm)] 9))
    have hBq : (((w1.alloc (.cells #[.slice none 0 0] 90)).alloc (.cells #[.slice ao len cap] 24)).alloc (.cells #[.string (bs nm)] 9)).cell? ⟨w1.heap.size + 1, 0, none⟩ = some (.slice ao len cap) := by
      have := ((Go.Boxed.new (w1.alloc (.cells #[.slice none 0 0] 90)) 24 (.slice ao len cap)).alloc (.cells #[.string (bs nm)] 9)).cell
      simpa using this
    have hBn : (((w1.alloc (.cells #[.slice none 0 0] 90)).alloc (.cells #[.slice ao len cap] 24)).alloc (.cells #[.string (bs nm)] 9)).cell? ⟨w1.heap.size + 1 + 1, 0, none⟩ = some (.string (bs nm)) := by
      have := (Go.Boxed.new ((w1.alloc (.cells #[.slice none 0 0] 90)).alloc (.cells #[.slice ao len cap] 24)) 9 (.string (bs nm))).cell
      simpa using this
    have HB0 := hide (below_al (below_al (below_al (unhide HB1) (.cells #[.slice none 0 0] 90)) (.cells #[.slice ao len cap] 24)) (.cells #[.string (bs nm)] 9))
    have HC := hide (above_stops (3 - 1) (w1.heap.size + 1) (w1.heap.size + 1 + 1) ao len cap l nm w _ (unhide HR) (unhide HB0) hl hc hBq hBn)
    clear HP HZ hpa hBq hBn
    gi_wp2_with fail
    refine ⟨trivial, ?_⟩
    first | refine ⟨(by intro e; cases e), ?_⟩ | skip
    refine (callsIn_wide.2 (above_any ao len cap nm _)).mono ?_
    rintro e w2 ⟨rfl, rfl⟩
    gi_wp2
    have hsz : (((w1.alloc (.cells #[.slice none 0 0] 90)).alloc (.cells #[.slice ao len cap] 24)).alloc (.cells #[.string (bs nm)] 9)).heap.size = w1.heap.size + 3 := by simp
    obtain ⟨W0, hW0⟩ : ∃ W0, ((w1.alloc (.cells #[.slice none 0 0] 90)).alloc (.cells #[.slice ao len cap] 24)).alloc (.cells #[.string (bs nm)] 9) = W0 := ⟨_, rfl⟩
    rw [hW0] at hsz HBo HB0 HC ⊢
    have hw1 := (unhide HB1).size
    clear hW0
    refine wpIn_rangeFunc_ownH rfl (by omega) (gf := 121) (lb := #[.pointer (some ⟨w1.heap.size + 1, 0, none⟩), .pointer (some ⟨w1.heap.size + 1 + 1, 0, none⟩)]) rfl trivial (enters_of Tryz.func121 (by kernel_rfl) rfl)
      (unhide HC) kpq_t (kpq_b (by omega)) (Below.refl _ _) (fun _ => rfl)
      (fun pre W => (∃ v, Go.Boxed W w1.heap.size 90 v ∧ W.ownsRow w.heap.size 9 1 v pre.length (scells (pre.map (fun q => bs q.1.name))) ∧ True) ∧ Below w.heap.size w W)
      (fun _ _ _ => False)
      (OwnFrom.and (Own.from (holdsRow_own w.heap.size w1.heap.size 90 9 1 (fun pre : List { q : Q // q ∈ l } => pre.length) (fun pre : List { q : Q // q ∈ l } => scells (pre.map (fun q => bs q.1.name))) (fun _ _ => True)) _) (ownFrom_below (Nat.le_refl _) (by omega)))
      (fun _ _ _ _ _ hs _ _ => hs)
      ⟨⟨_, unhide HBo, World.ownsRow_nil _ _ _ _, trivial⟩, unhide HB0⟩
      (fun x a' W => ∃ Bx, w1.heap.size < Bx ∧ QBox W Bx x.1 ∧ a' = { tmps := #[.slice ao len cap, .string (bs nm), undef, undef, .slice none 0 0, .pointer (some ⟨w1.heap.size, 0, none⟩), .pointer (some ⟨Bx, 0, none⟩), .slice ao len cap, .bool true, .bool false, .slice ao len cap, .string (bs nm), .func (.func 121) #[] #[.pointer (some ⟨w1.heap.size + 1, 0, none⟩), .pointer (some ⟨w1.heap.size + 1 + 1, 0, none⟩)], qv x.1, undef, undef, undef, undef, undef, undef, undef], defers := [] })
      (fun x a' _ X Y row hs hg hr => by
        obtain ⟨Bx, h1, h2, h3⟩ := hs
        refine ⟨Bx, h1, (hg.block Bx h2.lt (fun e => ?_)).trans h2, h3⟩
        obtain ⟨_, o, ho, hc⟩ := hr Bx e.symm
        rw [show X.heap[Bx]? = _ from h2] at ho
        cases ho
        cases hc)
      ?assign ?body ?done ?stop
    case assign =>
      rintro lp pre x W K ⟨⟨v, hv, hrow, _⟩, hB⟩ hK
      gi_wp2
      exact hK _ _ ((KeepsOthers.alloc _ _).from _) (kpq_of hB.size (below_al (Below.refl _ W) _)) ⟨⟨v, hv.alloc _, hrow.alloc _, trivial⟩, below_al hB _⟩ ⟨W.heap.size, hv.lt, QBox.new W x.1, rfl⟩
    case body =>
      rintro lp pre x a' W hlp _ ⟨⟨v, hv, hrow, _⟩, hB⟩ ⟨Bx, hBx, hX, rfl⟩ hlt
      have hc0 := hv.cell
      have hx0 := hX.c0
      have hname : (bs x.1.name).size ≤ 281474976710656 := by rw [bs_size]; have := unhide HN x.1 x.2; omega
      have hpl : pre.length ≤ 1048576 := by have := unhide HL; omega
      have HV := hide hv
      have HX := hide hX
      have HRW := hide hrow
      have HB := hide hB
      clear hv hX hrow hB
      gi_wp2_with fail
      gi_region_with_o (first | (refine ⟨trivial, ?_⟩; gi_at_call 89; refine (CallsIn.inRound lp (callsIn_wide.2 (clone_any _ _ hname))).mono ?_; rintro e w3 ⟨rfl, hb3⟩; have HW3 := hide (below_on (Below.refl _ W).drew hb3); have hc3 := (boxed_below (unhide HV) (unhide HW3)).cell; have hc3b := ((boxed_below (unhide HV) (unhide HW3)).alloc (.cells #[.string (bs x.1.name)] 9)).cell; obtain ⟨g, cp, w4, hrun, hc4, hf4, HFIN⟩ := gather_step 90 9 (.string ByteArray.empty) 16 i0 Tryz.underlying90 hi hz0 hz1 hz2 rfl (by decide) (by decide) (by omega) (boxed_below (unhide HV) (unhide HW3)) (row_below (unhide HRW) (unhide HW3)) hpl (Nat.le_trans (unhide HB).size (unhide HW3).size) (unhide HB1).size (.string (bs x.1.name)) rfl; clear hb3; simp [go_sem] at hrun))
      all_goals gi_wp2
      all_goals
        obtain ⟨f1, f2, f3, f4, f5⟩ := unhide HFIN
        exact ⟨((keeps_below (unhide HW3)).trans f3).from _, ⟨((unhide HW3).mono (unhide HB).size).trans f4, fun k q hq => f5 k q (hq.below (unhide HW3))⟩, ⟨⟨_, f1, by simpa using f2, trivial⟩, ((unhide HB).trans ((unhide HW3).mono (unhide HB).size)).trans f4⟩⟩
    case done =>
      rintro D ys W hD hys ⟨⟨v, hv, hrow, _⟩, hB⟩ hK
      have hc := hv.cell
      gi_wp2
      refine ⟨by simp, .inl ⟨_, _, rfl, run_takeDeferred hK, ?_⟩⟩
      exact ⟨_, results_tmp rfl _ _ _, v, rfl, Texts.of (o := ys.map (fun q => bs q.1.name)) (by have := ownsRow_putObj hrow (.deferred none) hK rfl; simpa using this) (by rw [← unhide HPA, ← hys]; simp), hB.trans (belowK_b (w := w) (Nat.le_refl _) W D _ _ (by omega) hK rfl rfl)⟩
    case stop =>
      rintro D c pre W _ _ h _
      exact h.elim
end Go.Proofs.YtcplnodfcchdhaaGreat

/-
  The library's Backward over a list of numbers: what its function that takes a yield hands on; walks over the dump.
-/
namespace Go.Proofs.YtcplnodfcchdhaaGreat
open Go.RowKit Go.Shelf
set_option linter.unusedVariables false
attribute [local go_sem] Oper.semAt_some

abbrev ints (st : List Int) : List Value := st.map (Value.int .i64)
/-- what a round that goes on keeps: every row of cells but the one at block p -/
def KpC (p : Nat) (W W' : World) : Prop := ∀ k o, k ≠ p → W.heap[k]? = some o → o.isCells = true → W'.heap[k]? = some o
theorem kpc_t {p : Nat} {A B C : World} (h : KpC p A B) (k : KpC p B C) : KpC p A C := fun i o hi ho hc => k i o hi (h i o hi ho hc) hc
theorem kpc_b {p : Nat} {w : World} (W : World) (l : Nat) (o o' : Obj) (hl : w.heap.size ≤ l) (h : W.heap[l]? = some o) (h1 : o.isCells = false) (h2 : o.isWalk = false) : KpC p W (W.putObj l o') := fun k q hk hq hc => by
  have hne : k ≠ l := fun e => by
    subst e
    rw [hq] at h
    cases h
    rw [h1] at hc
    cases hc
  exact ((grownBy_putObj' W l o').block k (lt_of_block hq) (by simp; omega)).trans hq
theorem kpc_below {p : Nat} {W W' : World} (h : Below W.heap.size W W') : KpC p W W' := fun k o _ ho _ => (h.block k (lt_of_block ho)).trans ho
theorem kpc_set {p : Nat} (W : World) (j : Nat) (u : Value) : KpC p W (W.setCell ⟨p, j, none⟩ u) := fun k o hk ho _ => (heap_setCell_other W ⟨p, j, none⟩ k u hk).trans ho

set_option maxRecDepth 100000 in
set_option maxHeartbeats 2000000 in
theorem back_nil (n l Bs : Nat) (J : List (Int × Int) → World → Prop) (W : World) (hBs : W.cell? ⟨Bs, 0, none⟩ = some (.slice none 0 0)) (h0 : J [] W) :
    CallsIn Fence.wide n Tryz.prog 136 #[.func (.yield l) #[] #[], .pointer (some ⟨Bs, 0, none⟩)] W fun e W' => (∃ v, e = .returned v) ∧ J [] W' := by
  refine callsIn_of_wp Tryz.func136 rfl trivial ?_ rfl
  simp only [Tryz.ntmps136, List.size_toArray, List.length_cons, List.length_nil, Nat.reduceAdd, Nat.reduceSub, Array.replicate_succ, Array.replicate_zero, List.push_toArray, List.append_toArray, List.nil_append, List.cons_append]
  gi_wp2
  gi_loopw [3] (fun i wr => i = .int .i64 (-1) ∧ J [] wr) (fun _ _ => 0)
  case atStart => exact ⟨by go_num, h0⟩
  case round =>
    obtain ⟨rfl, hJs⟩ := hrel
    gi_wp2
    go_end0
    exact ⟨⟨_, rfl⟩, hJs⟩

set_option maxRecDepth 100000 in
set_option maxHeartbeats 4000000 in
theorem back_some (n l Bs p g cap : Nat) (st : List Int) (J Jx : List (Int × Int) → World → Prop)
    (hY : ∀ pre x W1, J pre W1 → pre.length < st.length → YieldAt Fence.wide (n - 1) Tryz.prog l #[.int .i64 x.1, .int .i64 x.2] W1 fun e W' =>
      (e = .returned (.bool true) ∧ J (pre ++ [x]) W' ∧ KpC p W1 W') ∨ (e = .returned (.bool false) ∧ Jx (pre ++ [x]) W'))
    (W : World) (cur : Array Value) (hBs : Go.Boxed W Bs 112 (.slice (some ⟨g, 0, none⟩) st.length cap)) (hg : W.heap[g]? = some (.cells cur 3 (0, 0))) (hcur : ∀ j (h : j < st.length), cur[j]? = some (.int .i64 st[j])) (hp : Bs ≠ p) (hpg : g ≠ p) (hl : st.length ≤ 1048576) (h0 : J [] W) :
    CallsIn Fence.wide n Tryz.prog 136 #[.func (.yield l) #[] #[], .pointer (some ⟨Bs, 0, none⟩)] W fun e W' => (∃ v, e = .returned v) ∧
      ((∃ ys : List (Int × Int), Hid (ys.map Prod.snd = st.reverse) ∧ J ys W') ∨ (∃ pre, Jx pre W')) := by
  have HY := hide hY
  have HBs := hide hBs
  have HG := hide hg
  have HCU := hide hcur
  have H0 := hide h0
  have hc0 := hBs.cell
  clear hY hBs hg hcur h0
  refine callsIn_of_wp Tryz.func136 rfl trivial ?_ rfl
  simp only [Tryz.ntmps136, List.size_toArray, List.length_cons, List.length_nil, Nat.reduceAdd, Nat.reduceSub, Array.replicate_succ, Array.replicate_zero, List.push_toArray, List.append_toArray, List.nil_append, List.cons_append]
  gi_wp2
  clear hc0
  gi_loopw [3] (fun i wr => ∃ (k : Nat) (pre : List (Int × Int)), k ≤ st.length ∧ i = .int .i64 ((k : Int) - 1) ∧ Hid (pre.length + k = st.length) ∧ Hid (pre.map Prod.snd = (st.drop k).reverse) ∧ Hid (J pre wr) ∧ Hid (Go.Boxed wr Bs 112 (.slice (some ⟨g, 0, none⟩) st.length cap)) ∧ Hid (wr.heap[g]? = some (.cells cur 3 (0, 0)))) (fun i _ => (intOf i + 1).toNat)
  case atStart => exact ⟨st.length, [], Nat.le_refl _, by go_num, hide (by simp), hide (by simp), H0, HBs, HG⟩
  case round =>
    obtain ⟨k, pre, hk, rfl, HL, HM, HJ, HB, HGr⟩ := hrel
    cases k with
    | zero =>
      gi_wp2
      go_end0
      exact ⟨⟨_, rfl⟩, .inl ⟨pre, hide (by rw [unhide HM]; rfl), unhide HJ⟩⟩
    | succ j =>
      have hj : j < st.length := by omega
      have hcell : wr.cell? ⟨g, j, none⟩ = some (.int .i64 st[j]) := by
        have := unhide HCU j hj
        simp [World.cell?, unhide HGr, this]
      have hbox := (unhide HB).cell
      obtain ⟨fn, tmps, assign, body, hy, hR⟩ := unhide HY pre ((j : Int), st[j]) wr (unhide HJ) (by have := unhide HL; omega)
      have HRR := hide hR
      have HM2 := hide (show (pre ++ [((j : Int), st[j])]).map Prod.snd = (st.drop j).reverse by rw [List.map_append, unhide HM, List.drop_eq_getElem_cons hj, List.reverse_cons]; rfl)
      have hij : ((j + 1 : Nat) : Int) - 1 = (j : Int) := by omega
      obtain ⟨y, hyy⟩ : ∃ y, st[j] = y := ⟨_, rfl⟩
      rw [hyy] at hcell hy HRR HM2
      simp only at hy
      rw [hij]
      have j0 : (0 : Int) ≤ j := by omega
      have j1 : (j : Int) < st.length := by omega
      clear hR hyy hij HM
      gi_wp2
      refine ⟨(by intro e; cases e), ?_⟩
      refine (unhide HRR).mono ?_
      rintro e W3 (⟨rfl, hJ3, hk3⟩ | ⟨rfl, hJx3⟩)
      · have HB3 := hide (show Go.Boxed W3 Bs 112 (.slice (some ⟨g, 0, none⟩) st.length cap) from hk3 Bs _ hp (unhide HB) rfl)
        have HG3 := hide (hk3 g _ hpg (unhide HGr) rfl)
        have HJ3 := hide hJ3
        clear hk3 hJ3 hcell hbox hy HRR
        gi_wp2
        go_roundw
        case rel => exact ⟨j, pre ++ [((j : Int), y)], by omega, by go_num, hide (by have := unhide HL; simp; omega), HM2, HJ3, HB3, HG3⟩
        case measure => simp [intOf]
      · gi_wp2
        refine bodyPost_ret (results_none rfl _ _ _) rfl ?_
        exact ⟨⟨_, rfl⟩, .inr ⟨_, hJx3⟩⟩

theorem back_stops (n Bs p base : Nat) (v : Value) (st : List Int) (w : World) (hBs : Go.Boxed w Bs 112 v) (hrow : w.ownsRow base 3 1 v st.length (ints st)) (hp : Bs ≠ p) (hpv : some p ≠ v.ownBlock) (hl : st.length ≤ 1048576) :
    SeqStopsK Fence.wide n Tryz.prog 136 #[.pointer (some ⟨Bs, 0, none⟩)] (fun x : Int × Int => #[.int .i64 x.1, .int .i64 x.2]) (KpC p) (fun ys => Hid (ys.map Prod.snd = st.reverse)) (fun _ => True) st.length w := by
  intro l J Jx W hW hJ hJx hY h0
  have hB : Go.Boxed W Bs 112 v := boxed_below hBs hW
  have hr := row_below hrow hW
  rcases hr.2 with ⟨rfl, hz⟩ | ⟨g, cap, cur, rfl, _, hgb, hle, _, hsz, hx⟩
  · have : st = [] := List.eq_nil_of_length_eq_zero hz
    subst this
    exact (back_nil n l Bs J W hB.cell h0).mono fun e W' ⟨he, hj⟩ => ⟨he, .inl ⟨[], hide rfl, hj⟩⟩
  · refine (back_some n l Bs p g cap st J Jx hY W cur hB hgb (fun j h => ?_) hp (fun e => hpv (by simp [Value.ownBlock, e])) hl h0).mono ?_
    · have e1 : (cur.toList.take (st.length * 1))[j]? = some (.int .i64 st[j]) := by rw [hx]; simp [h]
      rw [List.getElem?_take_of_lt (by omega)] at e1
      simpa using e1
    · rintro e W' ⟨he, ⟨ys, h1, h2⟩ | ⟨pre, h2⟩⟩
      · exact ⟨he, .inl ⟨ys, h1, h2⟩⟩
      · exact ⟨he, .inr ⟨pre, trivial, h2⟩⟩

set_option maxHeartbeats 1000000 in
theorem back_any (v : Value) (w : World) (hv : v.oneCell' = true) :
    Calls Tryz.prog 133 #[v] w fun e w' => e = .returned (.func (.func 136) #[] #[.pointer (some ⟨w.heap.size, 0, none⟩)]) ∧ w.alloc (.cells #[v] 112) = w' := by
  have hmf : ∀ (fn : Fn) (first cap : Array Value) (w : World), (Instr.makeFunc fn first cap).run Tryz.prog w = .ok (.func fn first cap) w := fun _ _ _ _ => rfl
  go_enter Tryz.func133, Tryz.ntmps133
  go_wp2
  go_ret
  exact ⟨rfl, rfl⟩
end Go.Proofs.YtcplnodfcchdhaaGreat
