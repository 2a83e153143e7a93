/-
  What the model's Words answers: the parts between blanks, in memory of its own; a walk over the dump.
-/
import Derived.Test.YtfhnjghjibklcaaDoorWordsM
import Derived.Test.YtfhnjghjibklcaaDoorSOwn
namespace Go.Proofs.YtfhnjghjibklcaaDoor
open Go.RowKit
set_option linter.unusedVariables false

theorem extract_bs (s : ByteArray) (a b : Nat) : s.extract a b = bs ((s.data.toList.drop a).take (b - a)) := by
  apply WideShapes.bytes_inj
  rw [Lib.extract_data]
  simp [bs]
/-- what is gathered at place k: the part that began at f, and those ahead of it -/
def Gath (l : List UInt8) (f k : Nat) (o : List ByteArray) : Prop := o.length ≤ k ∧ o ++ (wordsFrom ((l.drop f).take (k - f)) (l.drop k)).map bs = wordsB l
theorem gath_zero (l : List UInt8) : Gath l 0 0 [] := ⟨by simp, by simp [wordsB, words]⟩
theorem gath_blank {s : ByteArray} {f k : Nat} {o : List ByteArray} (h : Gath s.data.toList f k o) (hk : k < s.size) (hb : s[k].toNat = 32) : Gath s.data.toList (k + 1) (k + 1) (o ++ [s.extract f k]) := by
  refine ⟨by have := h.1; simp; omega, ?_⟩
  have hl : k < s.data.toList.length := by simpa using hk
  have e := h.2
  rw [List.drop_eq_getElem_cons hl] at e
  have h32 : s.data.toList[k] = 32 := UInt8.toNat_inj.1 hb
  rw [wordsFrom, if_pos h32] at e
  rw [← e, extract_bs]; simp
theorem gath_other {s : ByteArray} {f k : Nat} {o : List ByteArray} (h : Gath s.data.toList f k o) (hf : f ≤ k) (hk : k < s.size) (hb : ¬ s[k].toNat = 32) : Gath s.data.toList f (k + 1) o := by
  refine ⟨by have := h.1; omega, ?_⟩
  have hl : k < s.data.toList.length := by simpa using hk
  have e := h.2
  rw [List.drop_eq_getElem_cons hl] at e
  have h32 : ¬ s.data.toList[k] = 32 := fun e => hb (by rw [show s[k] = s.data.toList[k] from rfl, e]; rfl)
  rw [wordsFrom, if_neg h32] at e
  rw [← e]
  have ht : (s.data.toList.drop f).take (k + 1 - f) = (s.data.toList.drop f).take (k - f) ++ [s.data.toList[k]] := by
    rw [show k + 1 - f = (k - f) + 1 from by omega, List.take_succ_eq_append_getElem (by simp; omega)]
    simp [show f + (k - f) = k from by omega]
  rw [ht]
theorem gath_end {s : ByteArray} {f : Nat} {o : List ByteArray} (h : Gath s.data.toList f s.size o) : o ++ [s.extract f s.size] = wordsB s.data.toList := by
  have e : s.data.toList.drop s.size = [] := List.drop_of_length_le (by simp)
  rw [← h.2, e, extract_bs]; simp [wordsFrom]

set_option maxRecDepth 100000 in
set_option maxHeartbeats 1000000 in
theorem specWords_any (s : ByteArray) (w : World) (hs : s.size ≤ 1048576) :
    Calls Tryd.prog 9 #[.string s] w fun e w' => ∃ g cap, e = .returned (.slice (some ⟨g, 0, none⟩) (wordsB s.data.toList).length cap) ∧ SS w' g cap (wordsB s.data.toList) ∧ w.heap.size ≤ g ∧ Below w.heap.size w w' := by
  obtain ⟨i0, hi, hz0, hz1, hz2⟩ := info_parts Tryd.infoS
  go_enter Tryd.func9, Tryd.ntmps9
  go_wp2
  go_loopw [3, 4, 5] (fun v a i wr => ∃ (f k : Nat) (o : List ByteArray), f ≤ k ∧ k ≤ s.size ∧ i = .int .i64 k ∧ a = .int .i64 f ∧ Gath s.data.toList f k o ∧ wr.ownsRow w.heap.size 9 1 v o.length (scells o) ∧ Below w.heap.size w wr) (fun _ _ i _ => s.size - (intOf i).toNat)
  case atStart => exact ⟨0, 0, [], Nat.le_refl _, Nat.zero_le _, rfl, rfl, gath_zero _, sown_empty w, (Below.refl _ _).alloc (Nat.le_refl _) _⟩
  case round =>
    obtain ⟨f, k, o, hf, hk, rfl, rfl, hgath, hown, hbel⟩ := hrel
    have hol : o.length ≤ 1048576 := by have := hgath.1; omega
    have hsz := hbel.size
    have HG := hide hgath
    clear hgath
    by_cases hlt : k < s.size
    · have hb : (s[k].toNat : Int) ≤ 255 := byte_le _
      by_cases h32 : s[k].toNat = 32
      · have hq : ((s[k].toNat : Int) == 32) = true := by simp; omega
        have hg2 := hide (gath_blank (unhide HG) hlt h32)
        clear h32
        go_wp2_with (at_builtin; refine wpList_append_own _ rfl _ _ 34 rfl w.heap.size 9 i0 (.string ByteArray.empty) 1 16 Tryd.underlying34 hi hz0 hz1 hz2 rfl (by decide) _ _ _ rfl (hown.alloc _) ⟨wr.heap.size, 0, none⟩ 1 1 [.string (s.extract f k)] rfl rfl ?c1 ?c2 ?c3 ?c4 ?c5 ?_)
        case c1 => intro j v hj; match j, hj with | 0, hj => simp at hj; subst hj; simp [Addr.add]
        case c2 => intro v hv; simp at hv; subst hv; rfl
        case c3 => unfold maxLen; omega
        case c4 => omega
        case c5 => simp; omega
        intro v' w1 hown' hgrow _
        have R := srow_step hbel hown hown' hgrow (by omega)
        clear hown' hgrow hown hbel
        go_wp2
        go_roundw
        case rel => exact ⟨k + 1, k + 1, o ++ [s.extract f k], Nat.le_refl _, by omega, by go_num, by go_num, unhide hg2, R.1, R.2⟩
        case measure => simp [intOf]; omega
      · have hq : ((s[k].toNat : Int) == 32) = false := by simp; omega
        have hg2 := hide (gath_other (unhide HG) hf hlt h32)
        have HO := hide hown
        have HB := hide hbel
        clear h32 hown hbel
        go_wp2
        go_roundw
        case rel => exact ⟨f, k + 1, o, by omega, by omega, by go_num, rfl, unhide hg2, unhide HO, unhide HB⟩
        case measure => simp [intOf]; omega
    · have he : k = s.size := by omega
      subst he
      have hend := hide (gath_end (unhide HG))
      go_wp2_with (at_builtin; refine wpList_append_own _ rfl _ _ 34 rfl w.heap.size 9 i0 (.string ByteArray.empty) 1 16 Tryd.underlying34 hi hz0 hz1 hz2 rfl (by decide) _ _ _ rfl (hown.alloc _) ⟨wr.heap.size, 0, none⟩ 1 1 [.string (s.extract f s.size)] rfl rfl ?d1 ?d2 ?d3 ?d4 ?d5 ?_)
      case d1 => intro j v hj; match j, hj with | 0, hj => simp at hj; subst hj; simp [Addr.add]
      case d2 => intro v hv; simp at hv; subst hv; rfl
      case d3 => unfold maxLen; omega
      case d4 => omega
      case d5 => simp; omega
      intro v' w1 hown' hgrow _
      have R := srow_step hbel hown hown' hgrow (by omega)
      clear hown' hgrow hown hbel
      rw [unhide hend] at R
      have R2 := ss_of_owns R.1 (wordsB_len _).1
      have HB := hide R.2
      obtain ⟨g, cap, hv, hss, hge⟩ := R2
      have HV := hide hv
      have HSS := hide hss
      clear R hv hss
      go_wp2
      go_ret
      exact ⟨g, cap, congrArg Ending.returned (unhide HV), unhide HSS, hge, unhide HB⟩
end Go.Proofs.YtfhnjghjibklcaaDoor
