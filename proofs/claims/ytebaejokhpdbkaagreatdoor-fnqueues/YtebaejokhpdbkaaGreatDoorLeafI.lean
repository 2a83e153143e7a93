/-
  The program's Leaf; a walk over the dump.
-/
import Derived.Test.YtebaejokhpdbkaaGreatDoorLoneI
namespace Go.Proofs.YtebaejokhpdbkaaGreatDoor
open Go.RowKit
set_option linter.unusedVariables false

set_option maxRecDepth 100000 in
set_option maxHeartbeats 1000000 in
theorem implLeaf_any (ao : Option Addr) (len cap : Nat) (l : List Q) (nm : List UInt8) (w : World) (h : QRow w ao len l) (hl : len ≤ 1048576) (hn : ∀ q ∈ l, q.name.length ≤ 1048576) (hc : len ≤ cap) :
    Calls Tryz.prog 18 #[.slice ao len cap, .string (bs nm)] w fun e w' => e = .returned (.bool (leaf l nm)) ∧ Below w.heap.size w w' := by
  have CQ := hide (implQueuesOk_any ao len cap l w h hl hn hc)
  have CL := hide (fun wx (hb : Below w.heap.size w wx) => lone_any ao len cap l nm wx (h.below hb) hl)
  have HF := hide (leaf_lone l nm)
  obtain ⟨o, ho⟩ : ∃ o, queuesOk l = o := ⟨_, rfl⟩
  obtain ⟨k, hk⟩ : ∃ k, lone l nm = k := ⟨_, rfl⟩
  obtain ⟨r, hr⟩ : ∃ r, leaf l nm = r := ⟨_, rfl⟩
  rw [ho] at CQ HF
  rw [hk] at CL HF
  rw [hr] at HF ⊢
  clear h hn ho hk hr
  go_enter Tryz.func18, Tryz.ntmps18
  go_wp2_with fail
  refine (unhide CQ).mono ?_
  rintro e w1 ⟨rfl, hb⟩
  have HB1 := hide hb
  clear hb CQ
  cases o with
  | false =>
    go_wp2
    go_ret
    exact ⟨ret_bool (by rw [unhide HF]; simp), unhide HB1⟩
  | true =>
    go_wp2_with fail
    refine (unhide CL _ (unhide HB1)).mono ?_
    rintro e w2 ⟨rfl, hb⟩
    have HB2 := hide (below_on (unhide HB1) hb)
    clear hb HB1 CL
    go_wp2
    go_ret
    exact ⟨ret_bool (by rw [unhide HF]; simp), unhide HB2⟩
end Go.Proofs.YtebaejokhpdbkaaGreatDoor
