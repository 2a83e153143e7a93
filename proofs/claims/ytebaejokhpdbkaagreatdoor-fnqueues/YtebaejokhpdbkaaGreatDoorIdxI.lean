/-
  The first queue of which something holds: what the library's IndexFunc and ContainsFunc answer over queues; where a queue stands, by the program; walks over the dump.
-/
import Derived.Test.YtebaejokhpdbkaaGreatDoorPackC
import Derived.Shelf.Abstract
namespace Go.Proofs.YtebaejokhpdbkaaGreatDoor
open Go.RowKit
set_option linter.unusedVariables false

def idxFrom (p : Q → Bool) : List Q → Nat → Int
  | [], _ => -1
  | q :: t, k => if p q = true then (k : Int) else idxFrom p t (k + 1)
theorem idxFrom_step {p : Q → Bool} {l : List Q} {k : Nat} (h : k < l.length) : idxFrom p (l.drop k) k = if p l[k] = true then (k : Int) else idxFrom p (l.drop (k + 1)) (k + 1) := by
  rw [List.drop_eq_getElem_cons h, idxFrom]
theorem idxFrom_end {p : Q → Bool} {l : List Q} {k : Nat} (h : l.length ≤ k) : idxFrom p (l.drop k) k = -1 := by
  rw [List.drop_of_length_le h]; rfl
theorem idx_place (nm : List UInt8) : ∀ (l : List Q) (k : Nat), idxFrom (fun q => decide (q.name = nm)) l k = placeFrom nm l k
  | [], _ => rfl
  | q :: t, k => by
    rw [idxFrom, placeFrom, idx_place nm t (k + 1)]
    by_cases h : q.name = nm <;> simp [h]
theorem idx_has (p : Q → Bool) : ∀ (l : List Q) (k : Nat), decide (0 ≤ idxFrom p l k) = l.any p
  | [], _ => by simp [idxFrom]
  | q :: t, k => by
    rw [idxFrom, List.any_cons]
    by_cases h : p q = true
    · rw [if_pos h, h]; simp
    · rw [if_neg h, idx_has p t (k + 1)]; simp [h]

set_option maxRecDepth 100000 in
set_option maxHeartbeats 2000000 in
theorem indexFunc_any (g : Nat) (lb : Array Value) (eg : ∀ args w, (callFunc g args).run Tryz.prog w = .ok (.enter g args) w) (p : Q → Bool) (ao : Option Addr) (len cap : Nat) (l : List Q) (w : World) (h : QRow w ao len l) (hl : len ≤ 1048576)
    (hp : ∀ wx q, Below w.heap.size w wx → Calls Tryz.prog g (#[qv q] ++ lb) wx fun e w' => e = .returned (.bool (p q)) ∧ Below wx.heap.size wx w') :
    Calls Tryz.prog 64 #[.slice ao len cap, .func (.func g) #[] lb] w fun e w' => e = .returned (.int .i64 (idxFrom p l 0)) ∧ Below w.heap.size w w' := by
  have HR := hide h
  have HL := hide h.1
  have HP := hide hp
  clear h hp
  go_enter Tryz.func64, Tryz.ntmps64
  go_wp2
  go_loopw [5, 8] (fun _ i wr => ∃ k : Nat, k ≤ len ∧ i = .int .i64 k ∧ Hid (idxFrom p l 0 = idxFrom p (l.drop k) k) ∧ Hid (Below w.heap.size w wr)) (fun _ i _ => len - (intOf i).toNat)
  case atStart => exact ⟨0, Nat.zero_le _, rfl, hide (by simp), hide (Below.refl _ _)⟩
  case round =>
    obtain ⟨k, hk, rfl, hq, HB⟩ := hrel
    by_cases hlt : k < len
    · obtain ⟨b, off, rfl, hx⟩ := ((unhide HR).below (unhide HB)).at hlt
      have hkl : k < l.length := by have := unhide HL; omega
      have hst := hide (idxFrom_step (p := p) (l := l) (k := k) hkl)
      obtain ⟨c0, c1, c2, c3⟩ := hx hkl
      clear hx
      obtain ⟨⟨nm, pa, du, mo⟩, hs⟩ : ∃ s, l[k] = s := ⟨_, rfl⟩
      rw [hs] at c0 c1 c2 c3 hst
      simp only at c0 c1 c2 c3
      have HC := hide (unhide HP wr ⟨nm, pa, du, mo⟩ (unhide HB))
      clear hs hkl HP
      cases hpq : p ⟨nm, pa, du, mo⟩ with
      | true =>
        rw [hpq] at HC
        have HQ := hide hpq
        clear hpq
        go_wp2_with (go_at_fn g; refine (unhide HC).mono ?_; rintro e w' ⟨rfl, hb⟩)
        go_ret
        exact ⟨ret_int (by rw [unhide hq, unhide hst, if_pos (unhide HQ)]), below_on (unhide HB) hb⟩
      | false =>
        rw [hpq] at HC
        have HQ := hide hpq
        clear hpq
        go_wp2_with (go_at_fn g; refine (unhide HC).mono ?_; rintro e w' ⟨rfl, hb⟩)
        go_roundw
        case rel => exact ⟨k + 1, by omega, by go_num, hide (by rw [unhide hq, unhide hst, if_neg (by rw [unhide HQ]; simp)]), hide (below_on (unhide HB) hb)⟩
        case measure => simp [intOf]; omega
    · go_wp2
      go_ret
      exact ⟨ret_int (by rw [unhide hq, idxFrom_end (by have := unhide HL; omega)]), unhide HB⟩

set_option maxRecDepth 100000 in
set_option maxHeartbeats 1000000 in
theorem placeFn_any (B : Nat) (nm : List UInt8) (q : Q) (w : World) (hc : w.cell? ⟨B, 0, none⟩ = some (.string (bs nm))) :
    Calls Tryz.prog 65 #[qv q, .pointer (some ⟨B, 0, none⟩)] w fun e w' => e = .returned (.bool (decide (q.name = nm))) ∧ Below w.heap.size w w' := by
  have hlt := cell_lt hc
  have hc2 : (w.alloc (.cells #[.string (bs q.name), .string (bs q.parent), .int .i64 q.due, .int .i64 q.most] 39)).cell? ⟨B, 0, none⟩ = some (.string (bs nm)) := by rw [World.cell?_alloc_lt _ _ ⟨B, 0, none⟩ hlt]; exact hc
  have hbe := bs_eq q.name nm
  clear hc hlt
  go_enter Tryz.func65, Tryz.ntmps65
  go_wp2
  go_ret
  exact ⟨rfl, below_al (Below.refl _ _) _⟩

set_option maxRecDepth 100000 in
set_option maxHeartbeats 1000000 in
theorem place_any (ao : Option Addr) (len cap : Nat) (l : List Q) (nm : List UInt8) (w : World) (h : QRow w ao len l) (hl : len ≤ 1048576) :
    Calls Tryz.prog 43 #[.slice ao len cap, .string (bs nm)] w fun e w' => e = .returned (.int .i64 (place l nm)) ∧ Below w.heap.size w w' := by
  have hmf : ∀ (fn : Fn) (first cap : Array Value) (w : World), (Instr.makeFunc fn first cap).run Tryz.prog w = .ok (.func fn first cap) w := fun _ _ _ _ => rfl
  have hb0 := below_al (Below.refl _ w) (.cells #[.string (bs nm)] 9)
  have C := hide (indexFunc_any 65 #[.pointer (some ⟨w.heap.size, 0, none⟩)] (enters_of Tryz.func65 (by kernel_rfl) rfl) (fun q => decide (q.name = nm)) ao len cap l _ (h.below hb0) hl
    (fun wx q hb => placeFn_any w.heap.size nm q wx ((hb.cell (p := ⟨w.heap.size, 0, none⟩) (by simp)).trans (by simp))))
  rw [idx_place] at C
  obtain ⟨p, hp⟩ : ∃ p, placeFrom nm l 0 = p := ⟨_, rfl⟩
  rw [show place l nm = p from hp]
  rw [hp] at C
  have HB0 := hide hb0
  clear h hb0 hp
  go_enter Tryz.func43, Tryz.ntmps43
  go_wp2_with fail
  refine (unhide C).mono ?_
  rintro e w1 ⟨rfl, hb⟩
  have HB := hide (below_on (unhide HB0) hb)
  clear hb
  go_wp2
  go_ret
  exact ⟨rfl, unhide HB⟩
end Go.Proofs.YtebaejokhpdbkaaGreatDoor
