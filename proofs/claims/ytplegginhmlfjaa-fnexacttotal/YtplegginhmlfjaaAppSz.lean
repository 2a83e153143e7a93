/-
  The laws' own szApp and szAppS: how much is handed in; walks over the dump.
-/
import Derived.Test.YtplegginhmlfjaaAppV
import Derived.Test.YtplegginhmlfjaaAskSz
namespace Go.Proofs.Ytplegginhmlfjaa
open Go.RowKit
set_option linter.unusedVariables false

/-- what a reading allows of one -/
def ApplBig (q : Appl) : Prop := q.queue.length ≤ 9223372036854775807 ∧ q.asks.length ≤ 9223372036854775807 ∧ ∀ a ∈ q.asks, a.node.length ≤ 9223372036854775807
/-- not too much -/
def FitAppl1 (q : Appl) : Prop := q.queue.length ≤ 1048576 ∧ FitAsk q.asks
def FitAppl (l : List Appl) : Prop := l.length ≤ 1048576 ∧ ∀ q ∈ l, FitAppl1 q

set_option maxRecDepth 100000 in
set_option maxHeartbeats 1000000 in
theorem szApp_any (id : Int) (qu : List UInt8) (ao : Option Addr) (len cap : Nat) (l : List Ask) (a : Int) (w : World) (h : AskRow w ao len l) (ha0 : 0 ≤ a) (ha1 : a ≤ 1048576) (hn : ApplBig ⟨id, qu, l⟩) :
    Calls Try.prog 70 #[applv id qu ao len cap, .int .i64 a] w fun e w' => ∃ r : Int, e = .returned (.int .i64 r) ∧ (r = -1 ∨ (0 ≤ r ∧ r ≤ a ∧ FitAppl1 ⟨id, qu, l⟩)) ∧ Below w.heap.size w w' := by
  have z1 := bs_size qu
  obtain ⟨hn1, hn2, hn3⟩ := hn
  simp only at hn1 hn2 hn3
  have hlen : len ≤ 9223372036854775807 := by have := h.1; omega
  have HB0 := hide (below_al (Below.refl _ w) (.cells #[.int .i64 id, .string (bs qu), .slice ao len cap] 100))
  have HR := hide h
  have H3 := hide hn3
  clear h hn3 hn2
  by_cases h1 : a - qu.length < 0
  · go_enter Try.func70, Try.ntmps70
    go_wp2
    go_ret
    exact ⟨-1, rfl, .inl rfl, unhide HB0⟩
  · have C := hide (szAskS_any ao len cap l (a - qu.length) _ ((unhide HR).below (unhide HB0)) hlen (unhide H3) (by omega) (by omega))
    go_enter Try.func70, Try.ntmps70
    go_wp2_with fail
    refine (unhide C).mono ?_
    rintro e w1 ⟨r, rfl, hr, hb⟩
    have HB1 := hide (below_on (unhide HB0) hb)
    clear hb C
    rcases hr with rfl | ⟨hr0, hr1, hf⟩
    · go_wp2
      go_ret
      exact ⟨-1, rfl, .inl rfl, unhide HB1⟩
    · have HF := hide hf
      clear hf
      go_wp2
      go_ret
      exact ⟨r, rfl, .inr ⟨hr0, by omega, by show qu.length ≤ 1048576; omega, unhide HF⟩, unhide HB1⟩

set_option maxRecDepth 100000 in
set_option maxHeartbeats 1000000 in
theorem szAppS_any (ao : Option Addr) (len cap : Nat) (l : List Appl) (a0 : Int) (w : World) (h : ApplRow w ao len l) (hlen : len ≤ 9223372036854775807) (hm : ∀ q ∈ l, ApplBig q) (hA0 : 0 ≤ a0) (hA1 : a0 ≤ 1048576) :
    Calls Try.prog 28 #[.slice ao len cap, .int .i64 a0] w fun e w' => ∃ r : Int, e = .returned (.int .i64 r) ∧ (r = -1 ∨ (0 ≤ r ∧ r ≤ a0 ∧ FitAppl l)) ∧ Below w.heap.size w w' := by
  have HR := hide h
  have HL := hide h.1
  have HM := hide hm
  clear h hm
  by_cases hbig : (len : Int) ≤ a0
  · have hb1 : ¬ (a0 : Int) - len < 0 := by omega
    go_enter Try.func28, Try.ntmps28
    go_wp2
    go_loopw [1, 5] (fun s i wr => ∃ (k : Nat) (a : Int), k ≤ len ∧ i = .int .i64 k ∧ s = .int .i64 a ∧ 0 ≤ a ∧ a ≤ a0 ∧ Hid (∀ q ∈ l.take k, FitAppl1 q) ∧ Hid (Below w.heap.size w wr)) (fun _ i _ => len - (intOf i).toNat)
    case atStart => exact ⟨0, a0 - len, Nat.zero_le _, rfl, rfl, by omega, by omega, hide (by simp), hide (Below.refl _ _)⟩
    case round =>
      obtain ⟨k, a, hk, rfl, rfl, ha0, ha1, HP, HB⟩ := hrel
      by_cases hlt : k < len
      · obtain ⟨b, off, rfl, hq⟩ := ((unhide HR).below (unhide HB)).at hlt
        have hkl : k < l.length := by have := unhide HL; omega
        obtain ⟨xo, xl, xc, c0, c1, c2, hrow, hxc⟩ := hq hkl
        have n1 := unhide HM l[k] (List.getElem_mem _)
        have htk := List.take_succ_eq_append_getElem hkl
        obtain ⟨q, hs⟩ : ∃ q, l[k] = q := ⟨_, rfl⟩
        rw [hs] at c0 c1 n1 htk hrow
        obtain ⟨id, qu, asks⟩ := q
        simp only at c0 c1 hrow
        have HTK := hide htk
        have C := hide (szApp_any id qu xo xl xc asks a wr hrow ha0 (by omega) n1)
        clear hq hs hkl htk n1 hrow
        go_wp2_with fail
        refine (unhide C).mono ?_
        rintro e w1 ⟨r, rfl, hr, hb⟩
        have HB1 := hide (below_on (unhide HB) hb)
        clear hb C c0 c1 c2
        rcases hr with rfl | ⟨r0, r1, r2⟩
        · go_wp2
          go_ret
          exact ⟨-1, rfl, .inl rfl, unhide HB1⟩
        · have HN := hide (show ∀ q ∈ l.take (k + 1), FitAppl1 q by
            rw [unhide HTK]
            intro x hx
            rcases List.mem_append.1 hx with hx | hx
            · exact unhide HP x hx
            · rw [List.mem_singleton.1 hx]; exact r2)
          clear r2 HP HTK
          go_wp2
          go_roundw
          case rel => exact ⟨k + 1, r, by omega, by go_num, rfl, by omega, by omega, HN, HB1⟩
          case measure => simp [intOf]; omega
      · have HF := hide (show FitAppl l from ⟨by have := unhide HL; omega, fun q hq => unhide HP q (by rw [List.take_of_length_le (by have := unhide HL; omega)]; exact hq)⟩)
        go_wp2
        go_ret
        exact ⟨a, rfl, .inr ⟨ha0, ha1, unhide HF⟩, unhide HB⟩
  · have hb1 : (a0 : Int) - len < 0 := by omega
    go_enter Try.func28, Try.ntmps28
    go_wp2
    go_ret
    exact ⟨-1, rfl, .inl rfl, Below.refl _ _⟩
end Go.Proofs.Ytplegginhmlfjaa
