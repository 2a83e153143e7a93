/-
  The text of an event: what the program's eventOf, wordsOf and OpText answer; walks over the dump.
-/
import Derived.Test.YthnkbdjombiodaaDoorOpS
import Derived.Test.YthnkbdjombiodaaDoorOpIW
import Derived.Test.YthnkbdjombiodaaDoorResTextI
namespace Go.Proofs.YthnkbdjombiodaaDoor
open Go.RowKit
set_option linter.unusedVariables false
set_option linter.unusedSimpArgs false


set_option maxRecDepth 100000 in
set_option maxHeartbeats 1000000 in
theorem eventOf0_any (o : Opv) (ao : Option Addr) (n c : Nat) (w : World) (hk : o.kind = 0) :
    Calls Tryd.prog 34 #[opv o ao n c] w fun e w' => e = .returned (.tuple #[.iface 102 (.agg #[.string (bs o.queue)]), .bool true]) ∧ Below w.heap.size w w' := by
  have HB := hide (OBx.new w o ao n c).2
  obtain ⟨kind, queue, app, ⟨am, ac, an, ad, ai⟩, cont, node, mem, cpu, conts⟩ := o
  simp only at hk
  subst hk
  go_enter Tryd.func34, Tryd.ntmps34
  go_wp2
  go_ret2
  exact ⟨rfl, unhide HB⟩

set_option maxRecDepth 100000 in
set_option maxHeartbeats 1000000 in
theorem eventOf1_any (o : Opv) (ao : Option Addr) (n c : Nat) (w : World) (hk : o.kind = 1) :
    Calls Tryd.prog 34 #[opv o ao n c] w fun e w' => e = .returned (.tuple #[.iface 104 (.agg #[.int .i64 o.app]), .bool true]) ∧ Below w.heap.size w w' := by
  have HB := hide (OBx.new w o ao n c).2
  obtain ⟨kind, queue, app, ⟨am, ac, an, ad, ai⟩, cont, node, mem, cpu, conts⟩ := o
  simp only at hk
  subst hk
  go_enter Tryd.func34, Tryd.ntmps34
  go_wp2
  go_ret2
  exact ⟨rfl, unhide HB⟩

set_option maxRecDepth 100000 in
set_option maxHeartbeats 1000000 in
theorem eventOf2_any (o : Opv) (ao : Option Addr) (n c : Nat) (w : World) (hk : o.kind = 2) :
    Calls Tryd.prog 34 #[opv o ao n c] w fun e w' => e = .returned (.tuple #[.iface 106 (.agg #[.int .i64 o.app, .int .i64 o.ask.mem, .int .i64 o.ask.cpu, .int .i64 o.ask.count, .string (bs o.ask.node), .int .i64 o.ask.missed]), .bool true]) ∧ Below w.heap.size w w' := by
  have HB := hide (OBx.new w o ao n c).2
  obtain ⟨kind, queue, app, ⟨am, ac, an, ad, ai⟩, cont, node, mem, cpu, conts⟩ := o
  simp only at hk
  subst hk
  go_enter Tryd.func34, Tryd.ntmps34
  go_wp2
  go_ret2
  exact ⟨rfl, unhide HB⟩

set_option maxRecDepth 100000 in
set_option maxHeartbeats 1000000 in
theorem eventOf3_any (o : Opv) (ao : Option Addr) (n c : Nat) (w : World) (hk : o.kind = 3) :
    Calls Tryd.prog 34 #[opv o ao n c] w fun e w' => e = .returned (.tuple #[.iface 108 (.agg #[.int .i64 o.cont]), .bool true]) ∧ Below w.heap.size w w' := by
  have HB := hide (OBx.new w o ao n c).2
  obtain ⟨kind, queue, app, ⟨am, ac, an, ad, ai⟩, cont, node, mem, cpu, conts⟩ := o
  simp only at hk
  subst hk
  go_enter Tryd.func34, Tryd.ntmps34
  go_wp2
  go_ret2
  exact ⟨rfl, unhide HB⟩

set_option maxRecDepth 100000 in
set_option maxHeartbeats 1000000 in
theorem eventOf4_any (o : Opv) (ao : Option Addr) (n c : Nat) (w : World) (hk : o.kind = 4) :
    Calls Tryd.prog 34 #[opv o ao n c] w fun e w' => e = .returned (.tuple #[.iface 110 (.agg #[.string (bs o.node), .int .i64 o.mem, .int .i64 o.cpu, .slice ao n c]), .bool true]) ∧ Below w.heap.size w w' := by
  have HB := hide (OBx.new w o ao n c).2
  obtain ⟨kind, queue, app, ⟨am, ac, an, ad, ai⟩, cont, node, mem, cpu, conts⟩ := o
  simp only at hk
  subst hk
  go_enter Tryd.func34, Tryd.ntmps34
  go_wp2
  go_ret2
  exact ⟨rfl, unhide HB⟩

set_option maxRecDepth 100000 in
set_option maxHeartbeats 1000000 in
theorem eventOf5_any (o : Opv) (ao : Option Addr) (n c : Nat) (w : World) (hk : o.kind = 5) :
    Calls Tryd.prog 34 #[opv o ao n c] w fun e w' => e = .returned (.tuple #[.iface 112 (.agg #[.string (bs o.node)]), .bool true]) ∧ Below w.heap.size w w' := by
  have HB := hide (OBx.new w o ao n c).2
  obtain ⟨kind, queue, app, ⟨am, ac, an, ad, ai⟩, cont, node, mem, cpu, conts⟩ := o
  simp only at hk
  subst hk
  go_enter Tryd.func34, Tryd.ntmps34
  go_wp2
  go_ret2
  exact ⟨rfl, unhide HB⟩

set_option maxRecDepth 100000 in
set_option maxHeartbeats 1000000 in
theorem eventOf6_any (o : Opv) (ao : Option Addr) (n c : Nat) (w : World) (hk : o.kind = 6) :
    Calls Tryd.prog 34 #[opv o ao n c] w fun e w' => e = .returned (.tuple #[.iface 113 (.agg #[]), .bool true]) ∧ Below w.heap.size w w' := by
  have HB := hide (OBx.new w o ao n c).2
  obtain ⟨kind, queue, app, ⟨am, ac, an, ad, ai⟩, cont, node, mem, cpu, conts⟩ := o
  simp only at hk
  subst hk
  go_enter Tryd.func34, Tryd.ntmps34
  go_wp2
  go_ret2
  exact ⟨rfl, unhide HB⟩

set_option maxRecDepth 100000 in
set_option maxHeartbeats 1000000 in
theorem eventOf7_any (o : Opv) (ao : Option Addr) (n c : Nat) (w : World) (hk : o.kind = 7) :
    Calls Tryd.prog 34 #[opv o ao n c] w fun e w' => e = .returned (.tuple #[.iface 114 (.agg #[.string (bs o.queue)]), .bool true]) ∧ Below w.heap.size w w' := by
  have HB := hide (OBx.new w o ao n c).2
  obtain ⟨kind, queue, app, ⟨am, ac, an, ad, ai⟩, cont, node, mem, cpu, conts⟩ := o
  simp only at hk
  subst hk
  go_enter Tryd.func34, Tryd.ntmps34
  go_wp2
  go_ret2
  exact ⟨rfl, unhide HB⟩

set_option maxRecDepth 100000 in
set_option maxHeartbeats 1000000 in
theorem eventOfX_any (o : Opv) (ao : Option Addr) (n c : Nat) (w : World) (h0 : ¬ o.kind = 0) (h1 : ¬ o.kind = 1) (h2 : ¬ o.kind = 2) (h3 : ¬ o.kind = 3) (h4 : ¬ o.kind = 4) (h5 : ¬ o.kind = 5) (h6 : ¬ o.kind = 6) (h7 : ¬ o.kind = 7) :
    Calls Tryd.prog 34 #[opv o ao n c] w fun e w' => e = .returned (.tuple #[.nilIface, .bool false]) ∧ Below w.heap.size w w' := by
  have HB := hide (OBx.new w o ao n c).2
  obtain ⟨kind, queue, app, ⟨am, ac, an, ad, ai⟩, cont, node, mem, cpu, conts⟩ := o
  simp only at h0 h1 h2 h3 h4 h5 h6 h7
  go_enter Tryd.func34, Tryd.ntmps34
  go_wp2
  go_ret2
  exact ⟨rfl, unhide HB⟩

set_option maxRecDepth 100000 in
set_option maxHeartbeats 1000000 in
theorem wordsOf0_any (x : List UInt8) (w : World) :
    Calls Tryd.prog 36 #[.iface 102 (.agg #[.string (bs x)])] w (WAns w [[115, 117, 98, 109, 105, 116], x]) := by
  have hta0 : ∀ (xt : TypeId) wx, (Instr.typeAssert (.iface 102 (.agg #[.string (bs x)])) xt 102 true).run Tryd.prog wx = .ok (.tuple #[.agg #[.string (bs x)], .bool true]) wx := fun xt wx => by
    simp [Instr.typeAssert, go_sem]
  have HB := hide (below_al (below_al (Below.refl _ w) (.cells #[.string (bs x)] 102)) (.cells #[.string ⟨#[115, 117, 98, 109, 105, 116]⟩, .string (bs x)] 9))
  have HT := hide (show Texts w.heap.size ((w.alloc (.cells #[.string (bs x)] 102)).alloc (.cells #[.string ⟨#[115, 117, 98, 109, 105, 116]⟩, .string (bs x)] 9)) (.slice (some ⟨w.heap.size + 1, 0, none⟩) 2 2) [[115, 117, 98, 109, 105, 116], x] by have := texts_made w.heap.size (w.alloc (.cells #[.string (bs x)] 102)) (by rw [al_size]; omega) [[115, 117, 98, 109, 105, 116], x] (by simp); rw [al_size] at this; exact this)
  go_enter Tryd.func36, Tryd.ntmps36
  go_wp2
  go_ret
  exact ⟨.slice (some ⟨w.heap.size + 1, 0, none⟩) 2 2, rfl, unhide HT, unhide HB⟩

set_option maxRecDepth 100000 in
set_option maxHeartbeats 1000000 in
theorem wordsOf1_any (a : Int) (w : World) (ha : -9223372036854775808 ≤ a ∧ a ≤ 9223372036854775807) (htab : Lib.TabIs Tryd.prog w "internal/strconv.uint64pow10" .u64 Lib.pow10Tab) :
    Calls Tryd.prog 36 #[.iface 104 (.agg #[.int .i64 a])] w (WAns w [[102, 105, 110, 105, 115, 104], Lib.itoa a]) := by
  have hta0 : ∀ (xt : TypeId) wx, (Instr.typeAssert (.iface 104 (.agg #[.int .i64 a])) xt 102 true).run Tryd.prog wx = .ok (.tuple #[.agg #[.string ⟨#[]⟩], .bool false]) wx := fun xt wx => by
    simp [Instr.typeAssert, go_sem]
  have hta1 : ∀ (xt : TypeId) wx, (Instr.typeAssert (.iface 104 (.agg #[.int .i64 a])) xt 104 true).run Tryd.prog wx = .ok (.tuple #[.agg #[.int .i64 a], .bool true]) wx := fun xt wx => by
    simp [Instr.typeAssert, go_sem]
  have HB0 := hide (below_al (Below.refl _ w) (.cells #[.int .i64 a] 104))
  have CD := hide (implDecText_any a (w.alloc (.cells #[.int .i64 a] 104)) ha.1 ha.2 (tab_on htab (unhide HB0)))
  clear htab
  go_enter Tryd.func36, Tryd.ntmps36
  go_wp2_with fail
  refine (unhide CD).mono ?_
  rintro e w1 ⟨rfl, hb⟩
  have HB := hide (below_al (below_on (unhide HB0) hb) (.cells #[.string ⟨#[102, 105, 110, 105, 115, 104]⟩, .string (bs (Lib.itoa a))] 9))
  have HT := hide (show Texts w.heap.size (w1.alloc (.cells #[.string ⟨#[102, 105, 110, 105, 115, 104]⟩, .string (bs (Lib.itoa a))] 9)) (.slice (some ⟨w1.heap.size, 0, none⟩) 2 2) [[102, 105, 110, 105, 115, 104], Lib.itoa a] from texts_made w.heap.size w1 (below_on (unhide HB0) hb).size [[102, 105, 110, 105, 115, 104], Lib.itoa a] (by simp))
  clear hb CD HB0
  go_wp2
  go_ret
  exact ⟨.slice (some ⟨w1.heap.size, 0, none⟩) 2 2, rfl, unhide HT, unhide HB⟩

set_option maxRecDepth 100000 in
set_option maxHeartbeats 1000000 in
theorem wordsOf3_any (a : Int) (w : World) (ha : -9223372036854775808 ≤ a ∧ a ≤ 9223372036854775807) (htab : Lib.TabIs Tryd.prog w "internal/strconv.uint64pow10" .u64 Lib.pow10Tab) :
    Calls Tryd.prog 36 #[.iface 108 (.agg #[.int .i64 a])] w (WAns w [[102, 114, 101, 101], Lib.itoa a]) := by
  have hta0 : ∀ (xt : TypeId) wx, (Instr.typeAssert (.iface 108 (.agg #[.int .i64 a])) xt 102 true).run Tryd.prog wx = .ok (.tuple #[.agg #[.string ⟨#[]⟩], .bool false]) wx := fun xt wx => by
    simp [Instr.typeAssert, go_sem]
  have hta1 : ∀ (xt : TypeId) wx, (Instr.typeAssert (.iface 108 (.agg #[.int .i64 a])) xt 104 true).run Tryd.prog wx = .ok (.tuple #[.agg #[.int .i64 0], .bool false]) wx := fun xt wx => by
    simp [Instr.typeAssert, go_sem]
  have hta2 : ∀ (xt : TypeId) wx, (Instr.typeAssert (.iface 108 (.agg #[.int .i64 a])) xt 106 true).run Tryd.prog wx = .ok (.tuple #[.agg #[.int .i64 0, .int .i64 0, .int .i64 0, .int .i64 0, .string ⟨#[]⟩, .int .i64 0], .bool false]) wx := fun xt wx => by
    simp [Instr.typeAssert, go_sem]
  have hta3 : ∀ (xt : TypeId) wx, (Instr.typeAssert (.iface 108 (.agg #[.int .i64 a])) xt 108 true).run Tryd.prog wx = .ok (.tuple #[.agg #[.int .i64 a], .bool true]) wx := fun xt wx => by
    simp [Instr.typeAssert, go_sem]
  have HB0 := hide (below_al (Below.refl _ w) (.cells #[.int .i64 a] 108))
  have CD := hide (implDecText_any a (w.alloc (.cells #[.int .i64 a] 108)) ha.1 ha.2 (tab_on htab (unhide HB0)))
  clear htab
  go_enter Tryd.func36, Tryd.ntmps36
  go_wp2_with fail
  refine (unhide CD).mono ?_
  rintro e w1 ⟨rfl, hb⟩
  have HB := hide (below_al (below_on (unhide HB0) hb) (.cells #[.string ⟨#[102, 114, 101, 101]⟩, .string (bs (Lib.itoa a))] 9))
  have HT := hide (show Texts w.heap.size (w1.alloc (.cells #[.string ⟨#[102, 114, 101, 101]⟩, .string (bs (Lib.itoa a))] 9)) (.slice (some ⟨w1.heap.size, 0, none⟩) 2 2) [[102, 114, 101, 101], Lib.itoa a] from texts_made w.heap.size w1 (below_on (unhide HB0) hb).size [[102, 114, 101, 101], Lib.itoa a] (by simp))
  clear hb CD HB0
  go_wp2
  go_ret
  exact ⟨.slice (some ⟨w1.heap.size, 0, none⟩) 2 2, rfl, unhide HT, unhide HB⟩

set_option maxRecDepth 100000 in
set_option maxHeartbeats 1000000 in
theorem wordsOf5_any (x : List UInt8) (w : World) :
    Calls Tryd.prog 36 #[.iface 112 (.agg #[.string (bs x)])] w (WAns w [[98, 101, 97, 116], x]) := by
  have hta0 : ∀ (xt : TypeId) wx, (Instr.typeAssert (.iface 112 (.agg #[.string (bs x)])) xt 102 true).run Tryd.prog wx = .ok (.tuple #[.agg #[.string ⟨#[]⟩], .bool false]) wx := fun xt wx => by
    simp [Instr.typeAssert, go_sem]
  have hta1 : ∀ (xt : TypeId) wx, (Instr.typeAssert (.iface 112 (.agg #[.string (bs x)])) xt 104 true).run Tryd.prog wx = .ok (.tuple #[.agg #[.int .i64 0], .bool false]) wx := fun xt wx => by
    simp [Instr.typeAssert, go_sem]
  have hta2 : ∀ (xt : TypeId) wx, (Instr.typeAssert (.iface 112 (.agg #[.string (bs x)])) xt 106 true).run Tryd.prog wx = .ok (.tuple #[.agg #[.int .i64 0, .int .i64 0, .int .i64 0, .int .i64 0, .string ⟨#[]⟩, .int .i64 0], .bool false]) wx := fun xt wx => by
    simp [Instr.typeAssert, go_sem]
  have hta3 : ∀ (xt : TypeId) wx, (Instr.typeAssert (.iface 112 (.agg #[.string (bs x)])) xt 108 true).run Tryd.prog wx = .ok (.tuple #[.agg #[.int .i64 0], .bool false]) wx := fun xt wx => by
    simp [Instr.typeAssert, go_sem]
  have hta4 : ∀ (xt : TypeId) wx, (Instr.typeAssert (.iface 112 (.agg #[.string (bs x)])) xt 110 true).run Tryd.prog wx = .ok (.tuple #[.agg #[.string ⟨#[]⟩, .int .i64 0, .int .i64 0, .slice none 0 0], .bool false]) wx := fun xt wx => by
    simp [Instr.typeAssert, go_sem]
  have hta5 : ∀ (xt : TypeId) wx, (Instr.typeAssert (.iface 112 (.agg #[.string (bs x)])) xt 112 true).run Tryd.prog wx = .ok (.tuple #[.agg #[.string (bs x)], .bool true]) wx := fun xt wx => by
    simp [Instr.typeAssert, go_sem]
  have HB := hide (below_al (below_al (Below.refl _ w) (.cells #[.string (bs x)] 112)) (.cells #[.string ⟨#[98, 101, 97, 116]⟩, .string (bs x)] 9))
  have HT := hide (show Texts w.heap.size ((w.alloc (.cells #[.string (bs x)] 112)).alloc (.cells #[.string ⟨#[98, 101, 97, 116]⟩, .string (bs x)] 9)) (.slice (some ⟨w.heap.size + 1, 0, none⟩) 2 2) [[98, 101, 97, 116], x] by have := texts_made w.heap.size (w.alloc (.cells #[.string (bs x)] 112)) (by rw [al_size]; omega) [[98, 101, 97, 116], x] (by simp); rw [al_size] at this; exact this)
  go_enter Tryd.func36, Tryd.ntmps36
  go_wp2
  go_ret
  exact ⟨.slice (some ⟨w.heap.size + 1, 0, none⟩) 2 2, rfl, unhide HT, unhide HB⟩

set_option maxRecDepth 100000 in
set_option maxHeartbeats 1000000 in
theorem wordsOf6_any (w : World) :
    Calls Tryd.prog 36 #[.iface 113 (.agg #[])] w (WAns w [[116, 105, 99, 107]]) := by
  have hta0 : ∀ (xt : TypeId) wx, (Instr.typeAssert (.iface 113 (.agg #[])) xt 102 true).run Tryd.prog wx = .ok (.tuple #[.agg #[.string ⟨#[]⟩], .bool false]) wx := fun xt wx => by
    simp [Instr.typeAssert, go_sem]
  have hta1 : ∀ (xt : TypeId) wx, (Instr.typeAssert (.iface 113 (.agg #[])) xt 104 true).run Tryd.prog wx = .ok (.tuple #[.agg #[.int .i64 0], .bool false]) wx := fun xt wx => by
    simp [Instr.typeAssert, go_sem]
  have hta2 : ∀ (xt : TypeId) wx, (Instr.typeAssert (.iface 113 (.agg #[])) xt 106 true).run Tryd.prog wx = .ok (.tuple #[.agg #[.int .i64 0, .int .i64 0, .int .i64 0, .int .i64 0, .string ⟨#[]⟩, .int .i64 0], .bool false]) wx := fun xt wx => by
    simp [Instr.typeAssert, go_sem]
  have hta3 : ∀ (xt : TypeId) wx, (Instr.typeAssert (.iface 113 (.agg #[])) xt 108 true).run Tryd.prog wx = .ok (.tuple #[.agg #[.int .i64 0], .bool false]) wx := fun xt wx => by
    simp [Instr.typeAssert, go_sem]
  have hta4 : ∀ (xt : TypeId) wx, (Instr.typeAssert (.iface 113 (.agg #[])) xt 110 true).run Tryd.prog wx = .ok (.tuple #[.agg #[.string ⟨#[]⟩, .int .i64 0, .int .i64 0, .slice none 0 0], .bool false]) wx := fun xt wx => by
    simp [Instr.typeAssert, go_sem]
  have hta5 : ∀ (xt : TypeId) wx, (Instr.typeAssert (.iface 113 (.agg #[])) xt 112 true).run Tryd.prog wx = .ok (.tuple #[.agg #[.string ⟨#[]⟩], .bool false]) wx := fun xt wx => by
    simp [Instr.typeAssert, go_sem]
  have hta6 : ∀ (xt : TypeId) wx, (Instr.typeAssert (.iface 113 (.agg #[])) xt 113 true).run Tryd.prog wx = .ok (.tuple #[.agg #[], .bool true]) wx := fun xt wx => by
    simp [Instr.typeAssert, go_sem]
  have HB := hide (below_al (below_al (Below.refl _ w) (.cells #[] 113)) (.cells #[.string ⟨#[116, 105, 99, 107]⟩] 9))
  have HT := hide (show Texts w.heap.size ((w.alloc (.cells #[] 113)).alloc (.cells #[.string ⟨#[116, 105, 99, 107]⟩] 9)) (.slice (some ⟨w.heap.size + 1, 0, none⟩) 1 1) [[116, 105, 99, 107]] by have := texts_made w.heap.size (w.alloc (.cells #[] 113)) (by rw [al_size]; omega) [[116, 105, 99, 107]] (by simp); rw [al_size] at this; exact this)
  go_enter Tryd.func36, Tryd.ntmps36
  go_wp2
  go_ret
  exact ⟨.slice (some ⟨w.heap.size + 1, 0, none⟩) 1 1, rfl, unhide HT, unhide HB⟩

set_option maxRecDepth 100000 in
set_option maxHeartbeats 1000000 in
theorem wordsOf7_any (x : List UInt8) (w : World) :
    Calls Tryd.prog 36 #[.iface 114 (.agg #[.string (bs x)])] w (WAns w [[115, 101, 114, 118, 101], x]) := by
  have hta0 : ∀ (xt : TypeId) wx, (Instr.typeAssert (.iface 114 (.agg #[.string (bs x)])) xt 102 true).run Tryd.prog wx = .ok (.tuple #[.agg #[.string ⟨#[]⟩], .bool false]) wx := fun xt wx => by
    simp [Instr.typeAssert, go_sem]
  have hta1 : ∀ (xt : TypeId) wx, (Instr.typeAssert (.iface 114 (.agg #[.string (bs x)])) xt 104 true).run Tryd.prog wx = .ok (.tuple #[.agg #[.int .i64 0], .bool false]) wx := fun xt wx => by
    simp [Instr.typeAssert, go_sem]
  have hta2 : ∀ (xt : TypeId) wx, (Instr.typeAssert (.iface 114 (.agg #[.string (bs x)])) xt 106 true).run Tryd.prog wx = .ok (.tuple #[.agg #[.int .i64 0, .int .i64 0, .int .i64 0, .int .i64 0, .string ⟨#[]⟩, .int .i64 0], .bool false]) wx := fun xt wx => by
    simp [Instr.typeAssert, go_sem]
  have hta3 : ∀ (xt : TypeId) wx, (Instr.typeAssert (.iface 114 (.agg #[.string (bs x)])) xt 108 true).run Tryd.prog wx = .ok (.tuple #[.agg #[.int .i64 0], .bool false]) wx := fun xt wx => by
    simp [Instr.typeAssert, go_sem]
  have hta4 : ∀ (xt : TypeId) wx, (Instr.typeAssert (.iface 114 (.agg #[.string (bs x)])) xt 110 true).run Tryd.prog wx = .ok (.tuple #[.agg #[.string ⟨#[]⟩, .int .i64 0, .int .i64 0, .slice none 0 0], .bool false]) wx := fun xt wx => by
    simp [Instr.typeAssert, go_sem]
  have hta5 : ∀ (xt : TypeId) wx, (Instr.typeAssert (.iface 114 (.agg #[.string (bs x)])) xt 112 true).run Tryd.prog wx = .ok (.tuple #[.agg #[.string ⟨#[]⟩], .bool false]) wx := fun xt wx => by
    simp [Instr.typeAssert, go_sem]
  have hta6 : ∀ (xt : TypeId) wx, (Instr.typeAssert (.iface 114 (.agg #[.string (bs x)])) xt 113 true).run Tryd.prog wx = .ok (.tuple #[.agg #[], .bool false]) wx := fun xt wx => by
    simp [Instr.typeAssert, go_sem]
  have hta7 : ∀ (xt : TypeId) wx, (Instr.typeAssert (.iface 114 (.agg #[.string (bs x)])) xt 114 true).run Tryd.prog wx = .ok (.tuple #[.agg #[.string (bs x)], .bool true]) wx := fun xt wx => by
    simp [Instr.typeAssert, go_sem]
  have HB := hide (below_al (below_al (Below.refl _ w) (.cells #[.string (bs x)] 114)) (.cells #[.string ⟨#[115, 101, 114, 118, 101]⟩, .string (bs x)] 9))
  have HT := hide (show Texts w.heap.size ((w.alloc (.cells #[.string (bs x)] 114)).alloc (.cells #[.string ⟨#[115, 101, 114, 118, 101]⟩, .string (bs x)] 9)) (.slice (some ⟨w.heap.size + 1, 0, none⟩) 2 2) [[115, 101, 114, 118, 101], x] by have := texts_made w.heap.size (w.alloc (.cells #[.string (bs x)] 114)) (by rw [al_size]; omega) [[115, 101, 114, 118, 101], x] (by simp); rw [al_size] at this; exact this)
  go_enter Tryd.func36, Tryd.ntmps36
  go_wp2
  go_ret
  exact ⟨.slice (some ⟨w.heap.size + 1, 0, none⟩) 2 2, rfl, unhide HT, unhide HB⟩
end Go.Proofs.YthnkbdjombiodaaDoor
