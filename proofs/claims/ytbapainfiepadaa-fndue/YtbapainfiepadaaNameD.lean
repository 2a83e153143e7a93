/-
  A name that is drawn; a walk over the dump.
-/
import Derived.Test.YtbapainfiepadaaDrawO
import Derived.Test.YtbapainfiepadaaDrawP
namespace Go.Proofs.Ytbapainfiepadaa
open Go.RowKit
set_option linter.unusedVariables false

set_option maxRecDepth 100000 in
set_option maxHeartbeats 1000000 in
theorem name_st {w0 : World} {B g : Nat} {ao : Option Addr} {len cap : Nat} (w : World) (h : St w0 B g ao len cap w) :
    Calls Try.prog 71 #[.pointer (some ⟨g, 0, none⟩)] w fun e w' => ∃ s : ByteArray, e = .returned (.string s) ∧ s.size ≤ 12 ∧ St w0 B g ao len cap w' := by
  have HS := hide h
  clear h
  go_enter Try.func71, Try.ntmps71
  go_wp2_with fail
  refine (once_st 16 _ (unhide HS) (by decide) (by decide)).mono ?_
  rintro e w1 ⟨x, rfl, hs1⟩
  have HS1 := hide hs1
  have hne : Hid (w1.heap.size ≠ g) := hide (by have := hs1.1.lt; omega)
  clear hs1
  cases x with
  | true =>
    have hq := hide (pickt_alloc w1 9 [⟨#[]⟩, ⟨#[65]⟩, ⟨#[48, 49, 50, 51, 52, 53, 54, 55, 56, 57]⟩, ⟨#[48, 49, 50, 51, 52, 53, 54, 55, 56, 57, 48]⟩, ⟨#[97, 32, 98]⟩] (by decide))
    go_wp2_with fail
    refine (pickS_st w1.heap.size 5 5 _ ((unhide HS1).alloc _) (unhide hq) (unhide hne) (by decide) (by decide)).mono ?_
    rintro e w2 ⟨x, rfl, hx0, hs2⟩
    have HS2 := hide hs2
    clear hs2
    go_wp2
    go_ret
    exact ⟨x, rfl, hx0, unhide HS2⟩
  | false =>
    have hq := hide (pickt_alloc w1 9 [⟨#[97]⟩, ⟨#[98]⟩, ⟨#[114, 111, 111, 116]⟩] (by decide))
    go_wp2_with fail
    refine (pickS_st w1.heap.size 3 3 _ ((unhide HS1).alloc _) (unhide hq) (unhide hne) (by decide) (by decide)).mono ?_
    rintro e w2 ⟨x, rfl, hx0, hs2⟩
    have HS2 := hide hs2
    clear hs2
    go_wp2
    go_ret
    exact ⟨x, rfl, hx0, unhide HS2⟩
end Go.Proofs.Ytbapainfiepadaa
