/-
  The text of an event, out of its parts: what the program's OpText answers; walks over the dump.
-/
import Derived.Test.YthnkbdjombiodaaDoorOpS
import Derived.Test.YthnkbdjombiodaaDoorOpIW
import Derived.Test.YthnkbdjombiodaaDoorResTextI
namespace Go.Proofs.YthnkbdjombiodaaDoor
open Go.RowKit
set_option linter.unusedVariables false
set_option linter.unusedSimpArgs false

theorem join_texts (ws : List (List UInt8)) (g cap : Nat) (wx : World) (hs : SS wx g cap (ws.map bs)) (hn : ws.length ≤ 2097152) (hl : (Lib.join ws [32]).length ≤ 140737488355328) :
    Calls Tryd.prog 35 #[.slice (some ⟨g, 0, none⟩) ws.length cap, .string ⟨#[32]⟩] wx fun e w' => e = .returned (.string (bs (Lib.join ws [32]))) ∧ Below wx.heap.size wx w' := by
  obtain ⟨cur, _, hc, _⟩ := hs.block
  have e : (ws.map bs).map (fun x => x.data.toList) = ws := by
    rw [List.map_map]
    exact List.map_id'' (fun x => by simp [bs]) ws
  have h1 : (ws.map bs).length ≤ 140737488355328 := by rw [List.length_map]; omega
  have := Tryd.strings_Join g 0 cap (ws.map bs) ⟨#[32]⟩ wx (fun j x hj => by
    obtain ⟨hj1, rfl⟩ := List.getElem?_eq_some_iff.1 hj
    rw [Nat.zero_add]
    exact hs.cell j hj1) hs.lt h1 hc (by rw [e]; exact hl)
  rw [e, List.length_map] at this
  exact this

set_option maxRecDepth 100000 in
set_option maxHeartbeats 2000000 in
theorem implOp_of (o : Opv) (ao : Option Addr) (n c : Nat) (ev : Value) (ws : List (List UInt8)) (w : World) (hne : 1 ≤ ws.length) (hn : ws.length ≤ 2097152) (hl : (Lib.join ws [32]).length ≤ 140737488355328)
    (CE : ∀ wx, Below w.heap.size w wx → Calls Tryd.prog 34 #[opv o ao n c] wx fun e w' => e = .returned (.tuple #[ev, .bool true]) ∧ Below wx.heap.size wx w')
    (CW : ∀ wx, Below w.heap.size w wx → Calls Tryd.prog 36 #[ev] wx (WAns wx ws)) :
    Calls Tryd.prog 8 #[opv o ao n c] w fun e w' => e = .returned (.string (bs (Lib.join ws [32]))) ∧ Below w.heap.size w w' := by
  have HB0 := hide (OBx.new w o ao n c).2
  have C0 := hide (CE _ (unhide HB0))
  have CX := hide CW
  have HJ := hide (fun (g cap : Nat) (wx : World) (hs : SS wx g cap (ws.map bs)) => join_texts ws g cap wx hs hn hl)
  obtain ⟨kind, queue, app, ⟨am, ac, an, ad, ai⟩, cont, node, mem, cpu, conts⟩ := o
  clear CE CW hl
  go_enter Tryd.func8, Tryd.ntmps8
  go_wp2_with fail
  refine (unhide C0).mono ?_
  rintro e w1 ⟨rfl, hb⟩
  have HB1 := hide (below_on (unhide HB0) hb)
  clear hb C0 HB0
  go_wp2_with fail
  refine (unhide CX _ (unhide HB1)).mono ?_
  rintro e w2 ⟨v, rfl, ht, hb⟩
  have HB2 := hide (below_on (unhide HB1) hb)
  obtain ⟨g, cap, hv, hs, _⟩ := ss_of_owns ht (by simpa using hne)
  rw [List.length_map] at hv
  subst hv
  have HS := hide hs
  clear ht hs hb HB1 CX
  go_wp2_with fail
  refine (unhide HJ _ _ _ (unhide HS)).mono ?_
  rintro e w3 ⟨rfl, hb⟩
  have HB3 := hide (below_on (unhide HB2) hb)
  clear hb HB2
  go_wp2
  go_ret
  exact ⟨rfl, unhide HB3⟩

end Go.Proofs.YthnkbdjombiodaaDoor
