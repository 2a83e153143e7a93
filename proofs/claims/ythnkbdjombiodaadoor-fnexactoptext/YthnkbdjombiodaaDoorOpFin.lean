/-
  The words of asks and joins; the text of every event: what the program's and the model's OpText answer; walks over the dump.
-/
import Derived.Test.YthnkbdjombiodaaDoorOpIX
import Derived.Test.YthnkbdjombiodaaDoorOpIT
import Derived.Test.YthnkbdjombiodaaDoorOpIJ
namespace Go.Proofs.YthnkbdjombiodaaDoor
open Go.RowKit
set_option linter.unusedVariables false
set_option linter.unusedSimpArgs false

set_option maxRecDepth 100000 in
set_option maxHeartbeats 1000000 in
theorem wordsOf2_any (app am ac an ai : Int) (ad : List UInt8) (w : World) (h1 : -9223372036854775808 ≤ app ∧ app ≤ 9223372036854775807) (h2 : -9223372036854775808 ≤ am ∧ am ≤ 9223372036854775807) (h3 : -9223372036854775808 ≤ ac ∧ ac ≤ 9223372036854775807) (h4 : -9223372036854775808 ≤ an ∧ an ≤ 9223372036854775807) (htab : Lib.TabIs Tryd.prog w "internal/strconv.uint64pow10" .u64 Lib.pow10Tab) :
    Calls Tryd.prog 36 #[.iface 106 (.agg #[.int .i64 app, .int .i64 am, .int .i64 ac, .int .i64 an, .string (bs ad), .int .i64 ai])] w (WAns w ([[97, 115, 107], Lib.itoa app, resL am ac, Lib.itoa an] ++ (if ad = [] then [] else [ad]))) := by
  have hta0 : ∀ (xt : TypeId) wx, (Instr.typeAssert (.iface 106 (.agg #[.int .i64 app, .int .i64 am, .int .i64 ac, .int .i64 an, .string (bs ad), .int .i64 ai])) xt 102 true).run Tryd.prog wx = .ok (.tuple #[.agg #[.string ⟨#[]⟩], .bool false]) wx := fun xt wx => by
    simp [Instr.typeAssert, go_sem]
  have hta1 : ∀ (xt : TypeId) wx, (Instr.typeAssert (.iface 106 (.agg #[.int .i64 app, .int .i64 am, .int .i64 ac, .int .i64 an, .string (bs ad), .int .i64 ai])) xt 104 true).run Tryd.prog wx = .ok (.tuple #[.agg #[.int .i64 0], .bool false]) wx := fun xt wx => by
    simp [Instr.typeAssert, go_sem]
  have hta2 : ∀ (xt : TypeId) wx, (Instr.typeAssert (.iface 106 (.agg #[.int .i64 app, .int .i64 am, .int .i64 ac, .int .i64 an, .string (bs ad), .int .i64 ai])) xt 106 true).run Tryd.prog wx = .ok (.tuple #[.agg #[.int .i64 app, .int .i64 am, .int .i64 ac, .int .i64 an, .string (bs ad), .int .i64 ai], .bool true]) wx := fun xt wx => by
    simp [Instr.typeAssert, go_sem]
  have HB0 := hide (below_al (Below.refl _ w) (.cells #[.int .i64 app, .int .i64 am, .int .i64 ac, .int .i64 an, .string (bs ad), .int .i64 ai] 106))
  have CW := hide (askWords_any app am ac an ai ad (w.alloc (.cells #[.int .i64 app, .int .i64 am, .int .i64 ac, .int .i64 an, .string (bs ad), .int .i64 ai] 106)) h1 h2 h3 h4 (tab_on htab (unhide HB0)))
  obtain ⟨full, hfull⟩ : ∃ l, [[97, 115, 107], Lib.itoa app, resL am ac, Lib.itoa an] ++ (if ad = [] then [] else [ad]) = l := ⟨_, rfl⟩
  rw [hfull] at CW ⊢
  clear hfull htab h1 h2 h3 h4
  go_enter Tryd.func36, Tryd.ntmps36
  go_wp2_with fail
  refine (unhide CW).mono ?_
  rintro e w1 ⟨v, rfl, ht, hb⟩
  have HB := hide (below_on (unhide HB0) hb)
  have HT := hide (texts_base ht (show w.heap.size ≤ _ by rw [al_size]; omega))
  clear hb ht CW HB0
  go_wp2
  go_ret
  exact ⟨v, rfl, unhide HT, unhide HB⟩

set_option maxRecDepth 100000 in
set_option maxHeartbeats 1000000 in
theorem wordsOf4_any (node : List UInt8) (mem cpu : Int) (ao : Option Addr) (n c : Nat) (conts : List Con) (w : World) (hr : ConRow w ao n conts) (hn : n ≤ 1048576) (h1 : -9223372036854775808 ≤ mem ∧ mem ≤ 9223372036854775807) (h2 : -9223372036854775808 ≤ cpu ∧ cpu ≤ 9223372036854775807) (hB : ∀ q ∈ conts, ConB q) (htab : Lib.TabIs Tryd.prog w "internal/strconv.uint64pow10" .u64 Lib.pow10Tab) :
    Calls Tryd.prog 36 #[.iface 110 (.agg #[.string (bs node), .int .i64 mem, .int .i64 cpu, .slice ao n c])] w (WAns w ([[106, 111, 105, 110], node, resL mem cpu] ++ conts.map conL)) := by
  have hta0 : ∀ (xt : TypeId) wx, (Instr.typeAssert (.iface 110 (.agg #[.string (bs node), .int .i64 mem, .int .i64 cpu, .slice ao n c])) xt 102 true).run Tryd.prog wx = .ok (.tuple #[.agg #[.string ⟨#[]⟩], .bool false]) wx := fun xt wx => by
    simp [Instr.typeAssert, go_sem]
  have hta1 : ∀ (xt : TypeId) wx, (Instr.typeAssert (.iface 110 (.agg #[.string (bs node), .int .i64 mem, .int .i64 cpu, .slice ao n c])) xt 104 true).run Tryd.prog wx = .ok (.tuple #[.agg #[.int .i64 0], .bool false]) wx := fun xt wx => by
    simp [Instr.typeAssert, go_sem]
  have hta2 : ∀ (xt : TypeId) wx, (Instr.typeAssert (.iface 110 (.agg #[.string (bs node), .int .i64 mem, .int .i64 cpu, .slice ao n c])) xt 106 true).run Tryd.prog wx = .ok (.tuple #[.agg #[.int .i64 0, .int .i64 0, .int .i64 0, .int .i64 0, .string ⟨#[]⟩, .int .i64 0], .bool false]) wx := fun xt wx => by
    simp [Instr.typeAssert, go_sem]
  have hta3 : ∀ (xt : TypeId) wx, (Instr.typeAssert (.iface 110 (.agg #[.string (bs node), .int .i64 mem, .int .i64 cpu, .slice ao n c])) xt 108 true).run Tryd.prog wx = .ok (.tuple #[.agg #[.int .i64 0], .bool false]) wx := fun xt wx => by
    simp [Instr.typeAssert, go_sem]
  have hta4 : ∀ (xt : TypeId) wx, (Instr.typeAssert (.iface 110 (.agg #[.string (bs node), .int .i64 mem, .int .i64 cpu, .slice ao n c])) xt 110 true).run Tryd.prog wx = .ok (.tuple #[.agg #[.string (bs node), .int .i64 mem, .int .i64 cpu, .slice ao n c], .bool true]) wx := fun xt wx => by
    simp [Instr.typeAssert, go_sem]
  have HB0 := hide (below_al (Below.refl _ w) (.cells #[.string (bs node), .int .i64 mem, .int .i64 cpu, .slice ao n c] 110))
  have CW := hide (joinWords_any node mem cpu ao n c conts (w.alloc (.cells #[.string (bs node), .int .i64 mem, .int .i64 cpu, .slice ao n c] 110)) (hr.below (unhide HB0)) hn h1 h2 hB (tab_on htab (unhide HB0)))
  obtain ⟨full, hfull⟩ : ∃ l, [[106, 111, 105, 110], node, resL mem cpu] ++ conts.map conL = l := ⟨_, rfl⟩
  rw [hfull] at CW ⊢
  clear hfull htab h1 h2 hr hB
  go_enter Tryd.func36, Tryd.ntmps36
  go_wp2_with fail
  refine (unhide CW).mono ?_
  rintro e w1 ⟨v, rfl, ht, hb⟩
  have HB := hide (below_on (unhide HB0) hb)
  have HT := hide (texts_base ht (show w.heap.size ≤ _ by rw [al_size]; omega))
  clear hb ht CW HB0
  go_wp2
  go_ret
  exact ⟨v, rfl, unhide HT, unhide HB⟩

/-- a text of two words is no longer than they and one -/
theorem join2_len (a b : List UInt8) : (Lib.join [a, b] [32]).length = a.length + 1 + b.length := by simp [Lib.join_cons, Lib.joinTail]; omega
set_option maxRecDepth 100000 in
set_option maxHeartbeats 1000000 in
theorem implOpText_any (o : Opv) (ao : Option Addr) (n c : Nat) (w : World) (hr : ConRow w ao n o.conts) (hf : FitOp o) (hB : OpB o) (htab : Lib.TabIs Tryd.prog w "internal/strconv.uint64pow10" .u64 Lib.pow10Tab) :
    Calls Tryd.prog 8 #[opv o ao n c] w fun e w' => e = .returned (.string (bs (opL o))) ∧ Below w.heap.size w w' := by
  have hnc : n ≤ 1048576 := by have := hf.2.2.2.1; have := hr.1; omega
  obtain ⟨f1, f2, f3, f4⟩ := hf
  obtain ⟨b1, b2, ⟨b3, b4, b5⟩, ⟨b6, b7⟩, b8⟩ := hB
  have i1 := Lib.itoa_length_le o.app b1.1 b1.2
  have i2 := Lib.itoa_length_le o.cont b2.1 b2.2
  have i5 := Lib.itoa_length_le o.ask.count b5.1 b5.2
  have r1 := resL_len o.ask.mem o.ask.cpu b3 b4
  by_cases h0 : o.kind = 0
  · have e : opL o = Lib.join [[115, 117, 98, 109, 105, 116], o.queue] [32] := by simp [opL, opWords, h0]
    rw [e]
    exact implOp_of o ao n c _ _ w (by simp) (by simp) (by rw [join2_len]; simp; omega) (fun wx _ => eventOf0_any o ao n c wx h0) (fun wx _ => wordsOf0_any o.queue wx)
  by_cases h1 : o.kind = 1
  · have e : opL o = Lib.join [[102, 105, 110, 105, 115, 104], Lib.itoa o.app] [32] := by simp [opL, opWords, h1]
    rw [e]
    exact implOp_of o ao n c _ _ w (by simp) (by simp) (by rw [join2_len]; simp; omega) (fun wx _ => eventOf1_any o ao n c wx h1) (fun wx hb => wordsOf1_any o.app wx b1 (tab_on htab hb))
  by_cases h2 : o.kind = 2
  · have e : opL o = Lib.join ([[97, 115, 107], Lib.itoa o.app, resL o.ask.mem o.ask.cpu, Lib.itoa o.ask.count] ++ (if o.ask.node = [] then [] else [o.ask.node])) [32] := by simp [opL, opWords, h2]
    rw [e]
    refine implOp_of o ao n c _ _ w (by simp) ?_ ?_ (fun wx _ => eventOf2_any o ao n c wx h2) (fun wx hb => wordsOf2_any o.app o.ask.mem o.ask.cpu o.ask.count o.ask.missed o.ask.node wx b1 b3 b4 b5 (tab_on htab hb))
    · split <;> simp
    · split
      · simp [Lib.join_cons, Lib.joinTail]; omega
      · simp [Lib.join_cons, Lib.joinTail]; omega
  by_cases h3 : o.kind = 3
  · have e : opL o = Lib.join [[102, 114, 101, 101], Lib.itoa o.cont] [32] := by simp [opL, opWords, h3]
    rw [e]
    exact implOp_of o ao n c _ _ w (by simp) (by simp) (by rw [join2_len]; simp; omega) (fun wx _ => eventOf3_any o ao n c wx h3) (fun wx hb => wordsOf3_any o.cont wx b2 (tab_on htab hb))
  by_cases h4 : o.kind = 4
  · have e : opL o = Lib.join ([[106, 111, 105, 110], o.node, resL o.mem o.cpu] ++ o.conts.map conL) [32] := by simp [opL, opWords, h4]
    have hl := joinL_len o.node o.mem o.cpu o.conts o.conts.length f3 b6 b7 f4.1 b8
    rw [← joinL_all o h4, e] at hl
    rw [e]
    exact implOp_of o ao n c _ _ w (by simp) (by have := f4.1; simp; omega) (by omega) (fun wx _ => eventOf4_any o ao n c wx h4) (fun wx hb => wordsOf4_any o.node o.mem o.cpu ao n c o.conts wx (hr.below hb) hnc b6 b7 b8 (tab_on htab hb))
  by_cases h5 : o.kind = 5
  · have e : opL o = Lib.join [[98, 101, 97, 116], o.node] [32] := by simp [opL, opWords, h5]
    rw [e]
    exact implOp_of o ao n c _ _ w (by simp) (by simp) (by rw [join2_len]; simp; omega) (fun wx _ => eventOf5_any o ao n c wx h5) (fun wx _ => wordsOf5_any o.node wx)
  by_cases h6 : o.kind = 6
  · have e : opL o = Lib.join [[116, 105, 99, 107]] [32] := by simp [opL, opWords, h6]
    rw [e]
    exact implOp_of o ao n c _ _ w (by simp) (by simp) (by rw [Lib.join_one]; simp) (fun wx _ => eventOf6_any o ao n c wx h6) (fun wx _ => wordsOf6_any wx)
  by_cases h7 : o.kind = 7
  · have e : opL o = Lib.join [[115, 101, 114, 118, 101], o.queue] [32] := by simp [opL, opWords, h7]
    rw [e]
    exact implOp_of o ao n c _ _ w (by simp) (by simp) (by rw [join2_len]; simp; omega) (fun wx _ => eventOf7_any o ao n c wx h7) (fun wx _ => wordsOf7_any o.queue wx)
  exact implOpX_any o ao n c w h0 h1 h2 h3 h4 h5 h6 h7
theorem specOpText_any (o : Opv) (ao : Option Addr) (n c : Nat) (w : World) (hr : ConRow w ao n o.conts) (hf : FitOp o) (hB : OpB o) :
    Calls Tryd.prog 6 #[opv o ao n c] w fun e w' => e = .returned (.string (bs (opL o))) ∧ Below w.heap.size w w' := by
  by_cases h0 : o.kind = 0
  · exact specOp0_any o ao n c w h0 hf hB
  by_cases h1 : o.kind = 1
  · exact specOp1_any o ao n c w h1 hf hB
  by_cases h2 : o.kind = 2
  · exact specOp2_any o ao n c w h2 hf hB
  by_cases h3 : o.kind = 3
  · exact specOp3_any o ao n c w h3 hf hB
  by_cases h4 : o.kind = 4
  · exact specOp4_any o ao n c w h4 hf hB hr
  by_cases h5 : o.kind = 5
  · exact specOp5_any o ao n c w h5 hf hB
  by_cases h6 : o.kind = 6
  · exact specOp6_any o ao n c w h6 hf hB
  by_cases h7 : o.kind = 7
  · exact specOp7_any o ao n c w h7 hf hB
  exact specOpX_any o ao n c w h0 h1 h2 h3 h4 h5 h6 h7
end Go.Proofs.YthnkbdjombiodaaDoor
