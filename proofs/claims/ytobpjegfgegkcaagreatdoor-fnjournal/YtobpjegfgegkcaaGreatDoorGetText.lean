/-
  What GetText answers, the program's and the model's: the text whose bytes stand at a place, and the place behind them; walks over the dump.
-/
import Derived.Test.YtobpjegfgegkcaaGreatDoorGetI
import Derived.Test.YtobpjegfgegkcaaGreatDoorClone
namespace Go.Proofs.YtobpjegfgegkcaaGreatDoor
open Go.RowKit
set_option linter.unusedVariables false
theorem getNum_le (s : ByteArray) (i : Int) (h : 0 ≤ (getNum s.data.toList i).2) : 0 ≤ (getNum s.data.toList i).1 ∧ (getNum s.data.toList i).1 ≤ 4000000000 ∧ (getNum s.data.toList i).2 ≤ s.size := by
  unfold getNum at *
  by_cases hi : i < 0
  · rw [if_pos hi] at h; simp at h
  · rw [if_neg hi] at *
    cases hs : stop 5 (s.data.toList.drop i.toNat) with
    | none => rw [hs] at h; simp at h
    | some j =>
      rw [hs] at h
      simp only at *
      by_cases hp : putNum (dv ((s.data.toList.drop i.toNat).take (j + 1))) = (s.data.toList.drop i.toNat).take (j + 1)
      · rw [if_pos hp] at *
        have hlt := stop_lt _ _ _ hs
        rw [List.length_drop, len_eq] at hlt
        refine ⟨by simp, ?_, by simp; omega⟩
        simp only
        unfold putNum at hp
        by_cases h4 : (0 : Int) ≤ (dv ((s.data.toList.drop i.toNat).take (j + 1)) : Int) ∧ (dv ((s.data.toList.drop i.toNat).take (j + 1)) : Int) ≤ 4000000000
        · exact h4.2
        · rw [if_neg h4] at hp
          have := congrArg List.length hp
          simp only [List.length_nil, List.length_take, List.length_drop, len_eq] at this
          omega
      · rw [if_neg hp] at h; simp at h
def getText (l : List UInt8) (i : Int) : List UInt8 × Int :=
  let g := getNum l i
  if g.2 < 0 ∨ 2000 < g.1 ∨ l.length - g.2 < g.1 then ([], -1) else ((l.drop g.2.toNat).take g.1.toNat, g.2 + g.1)
theorem getText_of {s : ByteArray} {i a b : Int} (h : getNum s.data.toList i = (a, b)) :
    getText s.data.toList i = if b < 0 ∨ 2000 < a ∨ (s.size : Int) - b < a then ([], -1) else ((s.data.toList.drop b.toNat).take a.toNat, b + a) := by
  unfold getText; rw [h]; simp only [len_eq]
theorem ret_st {a b : ByteArray} {c d : Int} (h1 : a = b) (h2 : c = d) : Ending.returned (.tuple #[.string a, .int .i64 c]) = .returned (.tuple #[.string b, .int .i64 d]) := by rw [h1, h2]

set_option maxRecDepth 100000 in
set_option maxHeartbeats 1000000 in
theorem specGetText_any (s : ByteArray) (i : Int) (w : World) (hs : s.size ≤ 1048576) (h0 : -9223372036854775808 ≤ i) (h1 : i ≤ 9223372036854775807) :
    Calls Tryz.prog 25 #[.string s, .int .i64 i] w fun e w' => e = .returned (.tuple #[.string (bs (getText s.data.toList i).1), .int .i64 (getText s.data.toList i).2]) ∧ Below w.heap.size w w' := by
  have hle := getNum_le s i
  have hcall := specGetNum_any s i w hs h0 h1
  obtain ⟨a, b, hg⟩ : ∃ a b, getNum s.data.toList i = (a, b) := ⟨_, _, rfl⟩
  have hgt := getText_of hg
  rw [hg] at hle hcall
  simp only at hle hcall
  have HG := hide hgt
  have HC := hide hcall
  clear hgt hcall hg
  by_cases hb : b < 0
  · have hf : Hid (getText s.data.toList i = ([], -1)) := hide (by rw [unhide HG]; exact if_pos (.inl hb))
    clear hle
    go_enter Tryz.func25, Tryz.ntmps25
    go_wp2_with fail
    refine (unhide HC).mono ?_
    rintro e w1 ⟨rfl, hb1⟩
    have HB := hide hb1
    clear hb1
    go_wp2
    go_ret2
    exact ⟨ret_st (by rw [unhide hf]; rfl) (by rw [unhide hf]), unhide HB⟩
  obtain ⟨ha0, ha4, hbs⟩ := hle (by omega)
  clear hle
  have hb0 : 0 ≤ b := by omega
  by_cases ha : 2000 < a
  · have hf : Hid (getText s.data.toList i = ([], -1)) := hide (by rw [unhide HG]; exact if_pos (.inr (.inl ha)))
    go_enter Tryz.func25, Tryz.ntmps25
    go_wp2_with fail
    refine (unhide HC).mono ?_
    rintro e w1 ⟨rfl, hb1⟩
    have HB := hide hb1
    clear hb1
    go_wp2
    go_ret2
    exact ⟨ret_st (by rw [unhide hf]; rfl) (by rw [unhide hf]), unhide HB⟩
  by_cases hl : (s.size : Int) - b < a
  · have hf : Hid (getText s.data.toList i = ([], -1)) := hide (by rw [unhide HG]; exact if_pos (.inr (.inr hl)))
    go_enter Tryz.func25, Tryz.ntmps25
    go_wp2_with fail
    refine (unhide HC).mono ?_
    rintro e w1 ⟨rfl, hb1⟩
    have HB := hide hb1
    clear hb1
    go_wp2
    go_ret2
    exact ⟨ret_st (by rw [unhide hf]; rfl) (by rw [unhide hf]), unhide HB⟩
  · have hf : Hid (getText s.data.toList i = ((s.data.toList.drop b.toNat).take a.toNat, b + a)) := hide (by rw [unhide HG]; exact if_neg (by omega))
    obtain ⟨B, rfl⟩ := Int.eq_ofNat_of_zero_le hb0
    obtain ⟨A, rfl⟩ := Int.eq_ofNat_of_zero_le ha0
    have hx : Hid (s.extract B (B + A) = bs ((s.data.toList.drop B).take A)) := hide (extract_pre s B A)
    have hsz : (s.extract B (B + A)).size ≤ 281474976710656 := by rw [unhide hx, bs_size, List.length_take]; omega
    go_enter Tryz.func25, Tryz.ntmps25
    go_wp2_with fail
    refine (unhide HC).mono ?_
    rintro e w1 ⟨rfl, hb1⟩
    have HB := hide hb1
    clear hb1
    go_wp2
    go_ret2
    exact ⟨ret_st (by rw [unhide hf]; exact unhide hx) (by rw [unhide hf]), unhide HB⟩

set_option maxRecDepth 100000 in
set_option maxHeartbeats 1000000 in
theorem implGetText_any (s : ByteArray) (i : Int) (w : World) (hs : s.size ≤ 1048576) (h0 : -9223372036854775808 ≤ i) (h1 : i ≤ 9223372036854775807) :
    Calls Tryz.prog 61 #[.string s, .int .i64 i] w fun e w' => e = .returned (.tuple #[.string (bs (getText s.data.toList i).1), .int .i64 (getText s.data.toList i).2]) ∧ Below w.heap.size w w' := by
  have hle := getNum_le s i
  have hcall := implGetNum_any s i w hs h0 h1
  obtain ⟨a, b, hg⟩ : ∃ a b, getNum s.data.toList i = (a, b) := ⟨_, _, rfl⟩
  have hgt := getText_of hg
  rw [hg] at hle hcall
  simp only at hle hcall
  have HG := hide hgt
  have HC := hide hcall
  clear hgt hcall hg
  by_cases hb : b < 0
  · have hf : Hid (getText s.data.toList i = ([], -1)) := hide (by rw [unhide HG]; exact if_pos (.inl hb))
    clear hle
    go_enter Tryz.func61, Tryz.ntmps61
    go_wp2_with fail
    refine (unhide HC).mono ?_
    rintro e w1 ⟨rfl, hb1⟩
    have HB := hide hb1
    clear hb1
    go_wp2
    go_ret2
    exact ⟨ret_st (by rw [unhide hf]; rfl) (by rw [unhide hf]), unhide HB⟩
  obtain ⟨ha0, ha4, hbs⟩ := hle (by omega)
  clear hle
  have hb0 : 0 ≤ b := by omega
  by_cases ha : 2000 < a
  · have hf : Hid (getText s.data.toList i = ([], -1)) := hide (by rw [unhide HG]; exact if_pos (.inr (.inl ha)))
    go_enter Tryz.func61, Tryz.ntmps61
    go_wp2_with fail
    refine (unhide HC).mono ?_
    rintro e w1 ⟨rfl, hb1⟩
    have HB := hide hb1
    clear hb1
    go_wp2
    go_ret2
    exact ⟨ret_st (by rw [unhide hf]; rfl) (by rw [unhide hf]), unhide HB⟩
  by_cases hl : (s.size : Int) - b < a
  · have hf : Hid (getText s.data.toList i = ([], -1)) := hide (by rw [unhide HG]; exact if_pos (.inr (.inr hl)))
    go_enter Tryz.func61, Tryz.ntmps61
    go_wp2_with fail
    refine (unhide HC).mono ?_
    rintro e w1 ⟨rfl, hb1⟩
    have HB := hide hb1
    clear hb1
    go_wp2
    go_ret2
    exact ⟨ret_st (by rw [unhide hf]; rfl) (by rw [unhide hf]), unhide HB⟩
  · have hf : Hid (getText s.data.toList i = ((s.data.toList.drop b.toNat).take a.toNat, b + a)) := hide (by rw [unhide HG]; exact if_neg (by omega))
    obtain ⟨B, rfl⟩ := Int.eq_ofNat_of_zero_le hb0
    obtain ⟨A, rfl⟩ := Int.eq_ofNat_of_zero_le ha0
    have hx : Hid (s.extract B (B + A) = bs ((s.data.toList.drop B).take A)) := hide (extract_pre s B A)
    have hsz : (s.extract B (B + A)).size ≤ 281474976710656 := by rw [unhide hx, bs_size, List.length_take]; omega
    go_enter Tryz.func61, Tryz.ntmps61
    go_wp2_with fail
    refine (unhide HC).mono ?_
    rintro e w1 ⟨rfl, hb1⟩
    have HB := hide hb1
    clear hb1
    go_wp2_with fail
    refine (clone_any _ _ hsz).mono ?_
    rintro e w2 ⟨rfl, hb2⟩
    have HB2 := hide (Below.trans (unhide HB) (hb2.mono (unhide HB).size))
    clear hb2
    go_wp2
    go_ret2
    exact ⟨ret_st (by rw [unhide hf]; exact unhide hx) (by rw [unhide hf]), unhide HB2⟩
end Go.Proofs.YtobpjegfgegkcaaGreatDoor
