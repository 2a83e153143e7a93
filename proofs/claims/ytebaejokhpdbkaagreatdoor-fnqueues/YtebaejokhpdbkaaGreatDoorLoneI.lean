/-
  Whether a queue is nobody's parent: what the program's Leaf answers; walks over the dump.
-/
import Derived.Test.YtebaejokhpdbkaaGreatDoorPackE
import Derived.Test.YtebaejokhpdbkaaGreatDoorQueuesOkI
namespace Go.Proofs.YtebaejokhpdbkaaGreatDoor
open Go.RowKit
set_option linter.unusedVariables false

theorem noKid_any (nm : List UInt8) : ∀ l : List Q, noKid nm l = !(l.any (fun q => decide (q.parent = nm)))
  | [] => rfl
  | q :: t => by rw [noKid, noKid_any nm t, List.any_cons]; by_cases h : q.parent = nm <;> simp [h]

set_option maxRecDepth 100000 in
set_option maxHeartbeats 1000000 in
theorem kidFn_any (B : Nat) (nm : List UInt8) (q : Q) (w : World) (hc : w.cell? ⟨B, 0, none⟩ = some (.string (bs nm))) :
    Calls Tryz.prog 63 #[qv q, .pointer (some ⟨B, 0, none⟩)] w fun e w' => e = .returned (.bool (decide (q.parent = nm))) ∧ Below w.heap.size w w' := by
  have hlt := cell_lt hc
  have hc2 : (w.alloc (.cells #[.string (bs q.name), .string (bs q.parent), .int .i64 q.due, .int .i64 q.most] 39)).cell? ⟨B, 0, none⟩ = some (.string (bs nm)) := by rw [World.cell?_alloc_lt _ _ ⟨B, 0, none⟩ hlt]; exact hc
  have hbe := bs_eq q.parent nm
  clear hc hlt
  go_enter Tryz.func63, Tryz.ntmps63
  go_wp2
  go_ret
  exact ⟨rfl, below_al (Below.refl _ _) _⟩

set_option maxRecDepth 100000 in
set_option maxHeartbeats 1000000 in
theorem containsFunc_any (g : Nat) (lb : Array Value) (eg : ∀ args w, (callFunc g args).run Tryz.prog w = .ok (.enter g args) w) (p : Q → Bool) (ao : Option Addr) (len cap : Nat) (l : List Q) (w : World) (h : QRow w ao len l) (hl : len ≤ 1048576)
    (hp : ∀ wx q, Below w.heap.size w wx → Calls Tryz.prog g (#[qv q] ++ lb) wx fun e w' => e = .returned (.bool (p q)) ∧ Below wx.heap.size wx w') :
    Calls Tryz.prog 62 #[.slice ao len cap, .func (.func g) #[] lb] w fun e w' => e = .returned (.bool (l.any p)) ∧ Below w.heap.size w w' := by
  have C := hide (indexFunc_any g lb eg p ao len cap l w h hl hp)
  have HS := hide (idx_has p l 0)
  obtain ⟨i, hi⟩ : ∃ i, idxFrom p l 0 = i := ⟨_, rfl⟩
  obtain ⟨b, hb⟩ : ∃ b, l.any p = b := ⟨_, rfl⟩
  rw [hi] at C HS
  rw [hb] at HS ⊢
  clear h hp hi hb
  go_enter Tryz.func62, Tryz.ntmps62
  go_wp2_with fail
  refine (unhide C).mono ?_
  rintro e w1 ⟨rfl, hb⟩
  have HB := hide hb
  clear hb
  by_cases h0 : 0 ≤ i
  · go_wp2
    go_ret
    exact ⟨ret_bool (by first | exact unhide HS | (rw [← unhide HS]; simp [h0])), unhide HB⟩
  · go_wp2
    go_ret
    exact ⟨ret_bool (by first | exact unhide HS | (rw [← unhide HS]; simp [h0])), unhide HB⟩

/-- whether a queue is there and nobody's parent -/
def lone (l : List Q) (nm : List UInt8) : Bool := !(l.any (fun q => decide (q.parent = nm))) && decide (0 ≤ place l nm)
theorem leaf_lone (l : List Q) (nm : List UInt8) : leaf l nm = (queuesOk l && lone l nm) := by
  rw [leaf, noKid_any, lone]
  cases queuesOk l <;> cases l.any (fun q => decide (q.parent = nm)) <;> simp

set_option maxRecDepth 100000 in
set_option maxHeartbeats 1000000 in
theorem lone_any (ao : Option Addr) (len cap : Nat) (l : List Q) (nm : List UInt8) (w : World) (h : QRow w ao len l) (hl : len ≤ 1048576) :
    Calls Tryz.prog 38 #[.slice ao len cap, .string (bs nm)] w fun e w' => e = .returned (.bool (lone l nm)) ∧ Below w.heap.size w w' := by
  have hmf : ∀ (fn : Fn) (first cap : Array Value) (w : World), (Instr.makeFunc fn first cap).run Tryz.prog w = .ok (.func fn first cap) w := fun _ _ _ _ => rfl
  have hb0 := below_al (Below.refl _ w) (.cells #[.string (bs nm)] 9)
  have hcell : (w.alloc (.cells #[.string (bs nm)] 9)).cell? ⟨w.heap.size, 0, none⟩ = some (.string (bs nm)) := by simp
  have CP := hide (fun wx (hb : Below w.heap.size w wx) => place_any ao len cap l nm wx (h.below hb) hl)
  have CC := hide (fun wx (hb : Below w.heap.size w wx) (hx : wx.cell? ⟨w.heap.size, 0, none⟩ = some (.string (bs nm))) => containsFunc_any 63 #[.pointer (some ⟨w.heap.size, 0, none⟩)] (enters_of Tryz.func63 (by kernel_rfl) rfl) (fun q => decide (q.parent = nm)) ao len cap l wx (h.below hb) hl
    (fun wy q hy => kidFn_any w.heap.size nm q wy ((hy.cell (p := ⟨w.heap.size, 0, none⟩) (cell_lt hx)).trans hx)))
  have HF := hide (show lone l nm = (!(l.any (fun q => decide (q.parent = nm))) && decide (0 ≤ place l nm)) from rfl)
  obtain ⟨p, hp⟩ : ∃ p, place l nm = p := ⟨_, rfl⟩
  obtain ⟨k, hk⟩ : ∃ k, l.any (fun q => decide (q.parent = nm)) = k := ⟨_, rfl⟩
  obtain ⟨r, hr⟩ : ∃ r, lone l nm = r := ⟨_, rfl⟩
  rw [hp] at CP HF
  rw [hk] at CC HF
  rw [hr] at HF ⊢
  have HB0 := hide hb0
  have HC := hide hcell
  clear h hb0 hp hk hr hcell
  go_enter Tryz.func38, Tryz.ntmps38
  go_wp2_with fail
  refine (unhide CP _ (unhide HB0)).mono ?_
  rintro e w2 ⟨rfl, hb⟩
  have HB2 := hide (below_on (unhide HB0) hb)
  have HC2 := hide ((hb.cell (p := ⟨w.heap.size, 0, none⟩) (cell_lt (unhide HC))).trans (unhide HC))
  clear hb HC HB0 CP
  by_cases h0 : 0 ≤ p
  · go_wp2_with fail
    refine (unhide CC _ (unhide HB2) (unhide HC2)).mono ?_
    rintro e w3 ⟨rfl, hb⟩
    have HB3 := hide (below_on (unhide HB2) hb)
    clear hb
    go_wp2
    go_ret
    exact ⟨ret_bool (by rw [unhide HF]; simp [h0]), unhide HB3⟩
  · go_wp2
    go_ret
    exact ⟨ret_bool (by rw [unhide HF]; simp [h0]), unhide HB2⟩
end Go.Proofs.YtebaejokhpdbkaaGreatDoor
