/-
  Several texts of this claim in one: UpM1, IdxI, QBox (pack.py put them together); each says in its own remark what is proved.
-/
import Derived.Test.YtgfdfaaemhdcaaaGreatFitsM
import Derived.Test.YtgfdfaaemhdcaaaGreatPackA
import Derived.Shelf.Abstract
import Derived.Test.YtgfdfaaemhdcaaaGreatQV
/-
  A queue, its parent, and so on, each looked for ahead of its kid: in plain words, without shares.
-/
namespace Go.Proofs.YtgfdfaaemhdcaaaGreat
open Go.RowKit
set_option linter.unusedVariables false

def upsFrom : Nat → List Q → List UInt8 → List Q
  | 0, _, _ => []
  | n + 1, l, nm => if h : 0 ≤ place l nm ∧ (place l nm).toNat < l.length then l[(place l nm).toNat] :: upsFrom n (l.take (place l nm).toNat) l[(place l nm).toNat].parent else []
def ups (l : List Q) (nm : List UInt8) : List Q := upsFrom (l.length + 1) l nm
theorem upsFrom_more : ∀ (n m : Nat) (l : List Q) (nm : List UInt8), l.length < n → l.length < m → upsFrom n l nm = upsFrom m l nm
  | 0, _, _, _, h, _ => by omega
  | _ + 1, 0, _, _, _, h => by omega
  | n + 1, m + 1, l, nm, h1, h2 => by
    rw [upsFrom, upsFrom]
    split
    · rename_i h
      rw [upsFrom_more n m _ _ (by simp; omega) (by simp; omega)]
    · rfl
theorem ups_none {l : List Q} {nm : List UInt8} (h : place l nm < 0) : ups l nm = [] := by
  rw [ups, upsFrom, dif_neg (by omega)]
theorem ups_step {l : List Q} {nm : List UInt8} {k : Nat} (hk : k < l.length) (h : place l nm = k) : ups l nm = l[k] :: ups (l.take k) l[k].parent := by
  rw [ups, upsFrom]
  simp only [h, Int.toNat_natCast]
  rw [dif_pos (by simp; omega), ups, upsFrom_more l.length ((l.take k).length + 1) _ _ (by simp; omega) (by simp)]
theorem ups_len : ∀ (n : Nat) (l : List Q) (nm : List UInt8), (upsFrom n l nm).length ≤ l.length
  | 0, l, nm => by simp [upsFrom]
  | n + 1, l, nm => by
    rw [upsFrom]
    split
    · rename_i h
      have := ups_len n (l.take (place l nm).toNat) l[(place l nm).toNat].parent
      simp at this ⊢
      omega
    · simp
theorem ups_mem : ∀ (n : Nat) (l : List Q) (nm : List UInt8), ∀ q ∈ upsFrom n l nm, q ∈ l
  | 0, l, nm, q, h => by simp [upsFrom] at h
  | n + 1, l, nm, q, h => by
    rw [upsFrom] at h
    split at h
    · rcases List.mem_cons.1 h with rfl | h
      · exact List.getElem_mem _
      · exact List.mem_of_mem_take (ups_mem n _ _ q h)
    · simp at h
theorem placeFrom_take (nm : List UInt8) : ∀ (l : List Q) (k j : Nat), placeFrom nm (l.take j) k = if placeFrom nm l k < ((k + j : Nat) : Int) then placeFrom nm l k else -1
  | [], k, j => by simp [placeFrom]; omega
  | x :: t, k, 0 => by
    rw [List.take_zero, placeFrom]
    rcases placeFrom_range nm (x :: t) k with h | h
    · rw [h, if_pos (by omega)]
    · rw [if_neg (by omega)]
  | x :: t, k, j + 1 => by
    rw [List.take_succ_cons, placeFrom, placeFrom]
    by_cases h : x.name = nm
    · rw [if_pos h, if_pos h, if_pos (by omega)]
    · rw [if_neg h, if_neg h, placeFrom_take nm t (k + 1) j, show k + 1 + j = k + (j + 1) by omega]
theorem place_take (l : List Q) (nm : List UInt8) (j : Nat) : place (l.take j) nm = if place l nm < j then place l nm else -1 := by
  have := placeFrom_take nm l 0 j
  rw [Nat.zero_add] at this
  exact this
/-- in a tree: what is told from the queue at place p on, up to the first one -/
def upAt (l : List Q) : Nat → Int → List Q
  | 0, _ => []
  | n + 1, p => if h : 0 ≤ p ∧ p.toNat < l.length then l[p.toNat] :: upAt l n (place l l[p.toNat].parent) else []
theorem upAt_names (l : List Q) : ∀ (n : Nat) (p : Int), (upAt l n p).map Q.name = pathAt l n p
  | 0, _ => rfl
  | n + 1, p => by
    rw [upAt, pathAt]
    split
    · rw [List.map_cons, upAt_names l n]
    · rfl
theorem upsFrom_upAt {l : List Q} (h : queuesOk l = true) : ∀ (n j : Nat) (nm : List UInt8), place l nm < j → upsFrom n (l.take j) nm = upAt l n (place l nm)
  | 0, _, _, _ => rfl
  | n + 1, j, nm, hj => by
    have hp : place (l.take j) nm = place l nm := by rw [place_take, if_pos hj]
    have hr := place_range l nm
    rw [upsFrom, upAt]
    simp only [hp]
    by_cases h0 : 0 ≤ place l nm
    · rw [dif_pos ⟨h0, by simp; omega⟩, dif_pos ⟨h0, by omega⟩]
      rw [List.getElem_take, List.take_take, show min (place l nm).toNat j = (place l nm).toNat by omega]
      rw [upsFrom_upAt h n _ _ (parent_ahead h (by omega))]
    · rw [dif_neg (by omega), dif_neg (by omega)]
theorem ups_up {l : List Q} (h : queuesOk l = true) (nm : List UInt8) : ups l nm = upAt l (l.length + 1) (place l nm) := by
  have hr := place_range l nm
  have := upsFrom_upAt h (l.length + 1) l.length nm (by omega)
  rwa [List.take_length] at this
theorem ups_path {l : List Q} (h : queuesOk l = true) (nm : List UInt8) : (ups l nm).map Q.name = path l nm := by
  rw [ups_up h, upAt_names, path, h]; rfl
end Go.Proofs.YtgfdfaaemhdcaaaGreat

/-
  The first queue of which something holds: what the library's IndexFunc and ContainsFunc answer over queues; where a queue stands, by the program; walks over the dump.
-/
namespace Go.Proofs.YtgfdfaaemhdcaaaGreat
open Go.RowKit
set_option linter.unusedVariables false

def idxFrom (p : Q → Bool) : List Q → Nat → Int
  | [], _ => -1
  | q :: t, k => if p q = true then (k : Int) else idxFrom p t (k + 1)
theorem idxFrom_step {p : Q → Bool} {l : List Q} {k : Nat} (h : k < l.length) : idxFrom p (l.drop k) k = if p l[k] = true then (k : Int) else idxFrom p (l.drop (k + 1)) (k + 1) := by
  rw [List.drop_eq_getElem_cons h, idxFrom]
theorem idxFrom_end {p : Q → Bool} {l : List Q} {k : Nat} (h : l.length ≤ k) : idxFrom p (l.drop k) k = -1 := by
  rw [List.drop_of_length_le h]; rfl
theorem idx_place (nm : List UInt8) : ∀ (l : List Q) (k : Nat), idxFrom (fun q => decide (q.name = nm)) l k = placeFrom nm l k
  | [], _ => rfl
  | q :: t, k => by
    rw [idxFrom, placeFrom, idx_place nm t (k + 1)]
    by_cases h : q.name = nm <;> simp [h]
theorem idx_has (p : Q → Bool) : ∀ (l : List Q) (k : Nat), decide (0 ≤ idxFrom p l k) = l.any p
  | [], _ => by simp [idxFrom]
  | q :: t, k => by
    rw [idxFrom, List.any_cons]
    by_cases h : p q = true
    · rw [if_pos h, h]; simp
    · rw [if_neg h, idx_has p t (k + 1)]; simp [h]

set_option maxRecDepth 100000 in
set_option maxHeartbeats 2000000 in
theorem indexFunc_any (g : Nat) (lb : Array Value) (eg : ∀ args w, (callFunc g args).run Tryz.prog w = .ok (.enter g args) w) (p : Q → Bool) (ao : Option Addr) (len cap : Nat) (l : List Q) (w : World) (h : QRow w ao len l) (hl : len ≤ 1048576)
    (hp : ∀ wx q, Below w.heap.size w wx → Calls Tryz.prog g (#[qv q] ++ lb) wx fun e w' => e = .returned (.bool (p q)) ∧ Below wx.heap.size wx w') :
    Calls Tryz.prog 102 #[.slice ao len cap, .func (.func g) #[] lb] w fun e w' => e = .returned (.int .i64 (idxFrom p l 0)) ∧ Below w.heap.size w w' := by
  have HR := hide h
  have HL := hide h.1
  have HP := hide hp
  clear h hp
  go_enter Tryz.func102, Tryz.ntmps102
  go_wp2
  go_loopw [5, 8] (fun _ i wr => ∃ k : Nat, k ≤ len ∧ i = .int .i64 k ∧ Hid (idxFrom p l 0 = idxFrom p (l.drop k) k) ∧ Hid (Below w.heap.size w wr)) (fun _ i _ => len - (intOf i).toNat)
  case atStart => exact ⟨0, Nat.zero_le _, rfl, hide (by simp), hide (Below.refl _ _)⟩
  case round =>
    obtain ⟨k, hk, rfl, hq, HB⟩ := hrel
    by_cases hlt : k < len
    · obtain ⟨b, off, rfl, hx⟩ := ((unhide HR).below (unhide HB)).at hlt
      have hkl : k < l.length := by have := unhide HL; omega
      have hst := hide (idxFrom_step (p := p) (l := l) (k := k) hkl)
      obtain ⟨c0, c1, c2, c3⟩ := hx hkl
      clear hx
      obtain ⟨⟨nm, pa, du, mo⟩, hs⟩ : ∃ s, l[k] = s := ⟨_, rfl⟩
      rw [hs] at c0 c1 c2 c3 hst
      simp only at c0 c1 c2 c3
      have HC := hide (unhide HP wr ⟨nm, pa, du, mo⟩ (unhide HB))
      clear hs hkl HP
      cases hpq : p ⟨nm, pa, du, mo⟩ with
      | true =>
        rw [hpq] at HC
        have HQ := hide hpq
        clear hpq
        go_wp2_with (go_at_fn g; refine (unhide HC).mono ?_; rintro e w' ⟨rfl, hb⟩)
        go_ret
        exact ⟨ret_int (by rw [unhide hq, unhide hst, if_pos (unhide HQ)]), below_on (unhide HB) hb⟩
      | false =>
        rw [hpq] at HC
        have HQ := hide hpq
        clear hpq
        go_wp2_with (go_at_fn g; refine (unhide HC).mono ?_; rintro e w' ⟨rfl, hb⟩)
        go_roundw
        case rel => exact ⟨k + 1, by omega, by go_num, hide (by rw [unhide hq, unhide hst, if_neg (by rw [unhide HQ]; simp)]), hide (below_on (unhide HB) hb)⟩
        case measure => simp [intOf]; omega
    · go_wp2
      go_ret
      exact ⟨ret_int (by rw [unhide hq, idxFrom_end (by have := unhide HL; omega)]), unhide HB⟩

set_option maxRecDepth 100000 in
set_option maxHeartbeats 1000000 in
theorem placeFn_any (B : Nat) (nm : List UInt8) (q : Q) (w : World) (hc : w.cell? ⟨B, 0, none⟩ = some (.string (bs nm))) :
    Calls Tryz.prog 103 #[qv q, .pointer (some ⟨B, 0, none⟩)] w fun e w' => e = .returned (.bool (decide (q.name = nm))) ∧ Below w.heap.size w w' := by
  have hlt := cell_lt hc
  have hc2 : (w.alloc (.cells #[.string (bs q.name), .string (bs q.parent), .int .i64 q.due, .int .i64 q.most] 75)).cell? ⟨B, 0, none⟩ = some (.string (bs nm)) := by rw [World.cell?_alloc_lt _ _ ⟨B, 0, none⟩ hlt]; exact hc
  have hbe := bs_eq q.name nm
  clear hc hlt
  go_enter Tryz.func103, Tryz.ntmps103
  go_wp2
  go_ret
  exact ⟨rfl, below_al (Below.refl _ _) _⟩

set_option maxRecDepth 100000 in
set_option maxHeartbeats 1000000 in
theorem place_any (ao : Option Addr) (len cap : Nat) (l : List Q) (nm : List UInt8) (w : World) (h : QRow w ao len l) (hl : len ≤ 1048576) :
    Calls Tryz.prog 82 #[.slice ao len cap, .string (bs nm)] w fun e w' => e = .returned (.int .i64 (place l nm)) ∧ Below w.heap.size w w' := by
  have hmf : ∀ (fn : Fn) (first cap : Array Value) (w : World), (Instr.makeFunc fn first cap).run Tryz.prog w = .ok (.func fn first cap) w := fun _ _ _ _ => rfl
  have hb0 := below_al (Below.refl _ w) (.cells #[.string (bs nm)] 9)
  have C := hide (indexFunc_any 103 #[.pointer (some ⟨w.heap.size, 0, none⟩)] (enters_of Tryz.func103 (by kernel_rfl) rfl) (fun q => decide (q.name = nm)) ao len cap l _ (h.below hb0) hl
    (fun wx q hb => placeFn_any w.heap.size nm q wx ((hb.cell (p := ⟨w.heap.size, 0, none⟩) (by simp)).trans (by simp))))
  rw [idx_place] at C
  obtain ⟨p, hp⟩ : ∃ p, placeFrom nm l 0 = p := ⟨_, rfl⟩
  rw [show place l nm = p from hp]
  rw [hp] at C
  have HB0 := hide hb0
  clear h hb0 hp
  go_enter Tryz.func82, Tryz.ntmps82
  go_wp2_with fail
  refine (unhide C).mono ?_
  rintro e w1 ⟨rfl, hb⟩
  have HB := hide (below_on (unhide HB0) hb)
  clear hb
  go_wp2
  go_ret
  exact ⟨rfl, unhide HB⟩
end Go.Proofs.YtgfdfaaemhdcaaaGreat

/-
  A variable that holds a queue.
-/
namespace Go.Proofs.YtgfdfaaemhdcaaaGreat
open Go.RowKit
set_option linter.unusedVariables false

abbrev qobj (q : Q) : Obj := .cells #[.string (bs q.name), .string (bs q.parent), .int .i64 q.due, .int .i64 q.most] 75
def QBox (w : World) (g : Nat) (q : Q) : Prop := w.heap[g]? = some (qobj q)
theorem QBox.new (w : World) (q : Q) : QBox (w.alloc (qobj q)) w.heap.size q := by show (w.heap.push _)[w.heap.size]? = _; simp
theorem QBox.lt {w : World} {g : Nat} {q : Q} (h : QBox w g q) : g < w.heap.size := lt_of_block h
theorem QBox.below {w w' : World} {g : Nat} {q : Q} (h : QBox w g q) (hb : Below w.heap.size w w') : QBox w' g q := (hb.block g h.lt).trans h
theorem QBox.c0 {w : World} {g : Nat} {q : Q} (h : QBox w g q) : w.cell? ⟨g, 0, none⟩ = some (.string (bs q.name)) := by unfold QBox at h; simp [World.cell?, h]
theorem QBox.c1 {w : World} {g : Nat} {q : Q} (h : QBox w g q) : w.cell? ⟨g, 1, none⟩ = some (.string (bs q.parent)) := by unfold QBox at h; simp [World.cell?, h]
theorem QBox.c2 {w : World} {g : Nat} {q : Q} (h : QBox w g q) : w.cell? ⟨g, 2, none⟩ = some (.int .i64 q.due) := by unfold QBox at h; simp [World.cell?, h]
theorem QBox.c3 {w : World} {g : Nat} {q : Q} (h : QBox w g q) : w.cell? ⟨g, 3, none⟩ = some (.int .i64 q.most) := by unfold QBox at h; simp [World.cell?, h]
/-- the variable holds the queue, and nothing of w0 has turned -/
def QB (w0 : World) (g : Nat) (q : Q) (w : World) : Prop := QBox w g q ∧ Below w0.heap.size w0 w
theorem QB.call {w0 w w' : World} {g : Nat} {q : Q} (h : QB w0 g q w) (hb : Below w.heap.size w w') : QB w0 g q w' := ⟨h.1.below hb, below_on h.2 hb⟩
theorem QB.drew {w0 w : World} {g : Nat} {q : Q} (h : QB w0 g q w) : QB w0 g q w.drew := h.call (Below.refl _ _).drew
theorem QB.read (w0 : World) (g : Nat) (q : Q) : ∀ wx, QB w0 g q wx → wx.cell? ⟨g, 0, none⟩ = some (.string (bs q.name)) ∧ wx.cell? ⟨g, 1, none⟩ = some (.string (bs q.parent)) ∧ wx.cell? ⟨g, 2, none⟩ = some (.int .i64 q.due) ∧ wx.cell? ⟨g, 3, none⟩ = some (.int .i64 q.most) := fun wx h => ⟨h.1.c0, h.1.c1, h.1.c2, h.1.c3⟩
end Go.Proofs.YtgfdfaaemhdcaaaGreat
