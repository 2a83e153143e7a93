/-
  What the program's Words answers: the parts between blanks, in memory of its own; a walk over the dump.
-/
import Derived.Test.YtfhnjghjibklcaaDoorWordsS
import Derived.Test.YtfhnjghjibklcaaDoorClone
namespace Go.Proofs.YtfhnjghjibklcaaDoor
open Go.RowKit
set_option linter.unusedVariables false

theorem wordsB_size (s : ByteArray) (j : Nat) (h : j < (wordsB s.data.toList).length) : ((wordsB s.data.toList)[j]).size ≤ s.size := by
  have key : ∀ (l cur : List UInt8) (x : List UInt8), x ∈ wordsFrom cur l → x.length ≤ cur.length + l.length := by
    intro l
    induction l with
    | nil => intro cur x hx; simp [wordsFrom] at hx; subst hx; simp
    | cons b t ih =>
      intro cur x hx
      rw [wordsFrom] at hx
      split at hx
      · rcases List.mem_cons.1 hx with rfl | hx
        · simp
        · have := ih [] x hx; simp at *; omega
      · have := ih (cur ++ [b]) x hx; simp at *; omega
  have hm : (wordsB s.data.toList)[j] ∈ wordsB s.data.toList := List.getElem_mem h
  obtain ⟨x, hx, e⟩ := List.mem_map.1 hm
  rw [← e, bs_size]
  have := key _ _ x hx
  simpa using this
theorem set_same (xs : List ByteArray) (j : Nat) (h : j < xs.length) : xs.set j xs[j] = xs := List.set_getElem_self h

set_option maxRecDepth 100000 in
set_option maxHeartbeats 1000000 in
theorem implWords_any (s : ByteArray) (w : World) (hs : s.size ≤ 1048576) (hm : ∃ m, w.cell? ⟨0, 0, none⟩ = some (.int .i64 m)) :
    Calls Tryd.prog 16 #[.string s] w fun e w' => ∃ g cap, e = .returned (.slice (some ⟨g, 0, none⟩) (wordsB s.data.toList).length cap) ∧ SS w' g cap (wordsB s.data.toList) ∧ w.heap.size ≤ g ∧ Below w.heap.size w w' := by
  obtain ⟨m, hm⟩ := hm
  have HM := hide hm
  clear hm
  have hsp := Tryd.strings_Split s blank m w (by omega) (unhide HM) (by decide)
  rw [count_words, splitB_words] at hsp
  unfold blank at hsp
  have HSP := hide hsp
  clear hsp
  have hwl := wordsB_len s.data.toList
  rw [len_eq] at hwl
  have HZ := hide (fun j h => wordsB_size s j h)
  obtain ⟨ws, hws⟩ : ∃ ws, ws = wordsB s.data.toList := ⟨_, rfl⟩
  rw [← hws] at hwl HSP HZ ⊢
  clear hws
  have hss : SS (w.alloc (.cells (ws.map Value.string).toArray 9)) w.heap.size ws.length ws := SS.mk (cur := (ws.map Value.string).toArray) (by show (w.heap.push _)[w.heap.size]? = _; simp) (Nat.le_refl _) (by unfold maxLen; omega) (by simp) (by simp; exact List.take_of_length_le (by simp))
  have HSS := hide hss
  clear hss
  go_enter Tryd.func16, Tryd.ntmps16
  go_wp2_with fail
  refine (unhide HSP).mono ?_
  rintro e w1 ⟨rfl, rfl⟩
  go_wp2
  go_loopw [4, 9] (fun _ i wr => ∃ k : Nat, k ≤ ws.length ∧ i = .int .i64 k ∧ SS wr w.heap.size ws.length ws ∧ Below w.heap.size w wr) (fun _ i _ => ws.length - (intOf i).toNat)
  case atStart => exact ⟨0, Nat.zero_le _, rfl, unhide HSS, (Below.refl _ _).alloc (Nat.le_refl _) _⟩
  case round =>
    obtain ⟨k, hk, rfl, hs1, hb1⟩ := hrel
    by_cases hlt : k < ws.length
    · have hlt2 : (k : Int) < (ws.length : Int) := by omega
      have hc : wr.cell? ⟨w.heap.size, k, none⟩ = some (.string ws[k]) := hs1.cell k hlt
      have hzk : ws[k].size ≤ 281474976710656 := by have := unhide HZ k hlt; omega
      have HS1 := hide hs1
      have HB1 := hide hb1
      clear hs1 hb1
      go_wp2_with fail
      refine (clone_any _ _ hzk).mono ?_
      rintro e w2 ⟨rfl, hb2⟩
      have hs2 := (unhide HS1).below hb2 (unhide HS1).lt
      have hb3 := Below.trans (unhide HB1) (hb2.mono (unhide HB1).size)
      have hc2 : w2.cell? ⟨w.heap.size, k, none⟩ = some (.string ws[k]) := hs2.cell k hlt
      have hf2 : w2.frozen? ⟨w.heap.size, k, none⟩ = false := hs2.frozen k
      have hs3 := hs2.set k hlt ws[k]
      rw [set_same ws k hlt] at hs3
      have HS3 := hide hs3
      have HB3 := hide (hb3.setCell (a := w) (p := ⟨w.heap.size, k, none⟩) (Nat.le_refl _) (.string ws[k]))
      clear hs2 hs3 hb2 hb3
      go_wp2
      go_roundw
      case rel => exact ⟨k + 1, by omega, by go_num, unhide HS3, unhide HB3⟩
      case measure => simp [intOf]; omega
    · have HS1 := hide hs1
      have HB1 := hide hb1
      clear hs1 hb1
      go_wp2
      go_ret
      exact ⟨w.heap.size, ws.length, rfl, unhide HS1, Nat.le_refl _, unhide HB1⟩

theorem cell_on {w w' : World} {b o : Nat} (h : ∃ m, w.cell? ⟨b, o, none⟩ = some (.int .i64 m)) (hb : Below w.heap.size w w') : ∃ m, w'.cell? ⟨b, o, none⟩ = some (.int .i64 m) := by
  obtain ⟨m, hm⟩ := h
  exact ⟨m, (hb.cell (p := ⟨b, o, none⟩) (cell_lt hm)).trans hm⟩
theorem maxLen_cell (w : World) (h : w.ShapedOpen Tryd.prog) : ∃ m, w.cell? ⟨0, 0, none⟩ = some (.int .i64 m) := Tryd.laysM146.s1_3 w h
theorem below_drewAny (w : World) (n : Nat) : Below w.heap.size w (w.drewN n) := below_drewN (Below.refl _ _) n
theorem ss_drewN {w : World} {g cap n : Nat} {xs : List ByteArray} (h : SS w g cap xs) : SS (w.drewN n) g cap xs := h.below (below_drewAny w n) h.lt
theorem ss_grown {w w' : World} {g g' cap : Nat} {xs : List ByteArray} (h : SS w g cap xs) (hg : w.grownBy w' (some g')) (hn : g ≠ g') : SS w' g cap xs := h.same (hg.block g h.lt (fun e => hn (Option.some.inj e)))
end Go.Proofs.YtfhnjghjibklcaaDoor
