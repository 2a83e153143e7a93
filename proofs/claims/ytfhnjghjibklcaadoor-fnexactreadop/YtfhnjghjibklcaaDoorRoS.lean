/-
  An operation out of its text, by the model: ReadOp; a walk over the dump.
-/
import Derived.Test.YtfhnjghjibklcaaDoorRoN
import Derived.Test.YtfhnjghjibklcaaDoorOpS
import Derived.Test.YtfhnjghjibklcaaDoorWordsS
import Derived.Test.YtfhnjghjibklcaaDoorIn
import Derived.Deep.CutBlock
namespace Go.Proofs.YtfhnjghjibklcaaDoor
open Go.RowKit
set_option linter.unusedVariables false
set_option linter.unusedSimpArgs false

theorem specOpT_any (o : Opv) (w : World) (h4 : ¬ o.kind = 4) (h5 : ¬ o.kind = 5) (hf : FitOp o) (hB : OpB o) :
    Calls Tryd.prog 14 #[opv o none 0 0] w fun e w' => e = .returned (.string (bs (opL o))) ∧ Below w.heap.size w w' := by
  by_cases h0 : o.kind = 0
  · exact specOp0_any o none 0 0 w h0 hf hB
  by_cases h1 : o.kind = 1
  · exact specOp1_any o none 0 0 w h1 hf hB
  by_cases h2 : o.kind = 2
  · exact specOp2_any o none 0 0 w h2 hf hB
  by_cases h3 : o.kind = 3
  · exact specOp3_any o none 0 0 w h3 hf hB
  by_cases h6 : o.kind = 6
  · exact specOp6_any o none 0 0 w h6 hf hB
  by_cases h7 : o.kind = 7
  · exact specOp7_any o none 0 0 w h7 hf hB
  exact specOpX_any o none 0 0 w h0 h1 h2 h3 h4 h5 h6 h7
theorem sw_fits (l : List UInt8) (ws : List (List UInt8)) (h : ∀ x ∈ ws, x.length ≤ 1048576) : FitOp (rdSw l ws).1 ∧ OpB (rdSw l ws).1 ∧ (¬ (rdSw l ws).1.kind = 4 ∧ ¬ (rdSw l ws).1.kind = 5) := by
  have hz : FitCon [] := ⟨by simp, fun q hq => by cases hq⟩
  have hn : FitOp ⟨-1, [], 0, ⟨0, 0, 0, [], 0⟩, 0, [], 0, 0, []⟩ ∧ OpB ⟨-1, [], 0, ⟨0, 0, 0, [], 0⟩, 0, [], 0, 0, []⟩ ∧ (¬ (⟨-1, [], 0, ⟨0, 0, 0, [], 0⟩, 0, [], 0, 0, []⟩ : Opv).kind = 4 ∧ ¬ (⟨-1, [], 0, ⟨0, 0, 0, [], 0⟩, 0, [], 0, 0, []⟩ : Opv).kind = 5) := ⟨⟨by simp, by simp, by simp, hz⟩, ⟨by simp, by simp, by simp, by simp, fun q hq => by cases hq⟩, by simp, by simp⟩
  have hd : ∀ b, -9223372036854775808 ≤ readDec b ∧ readDec b ≤ 9223372036854775807 := fun b => by have := rdDec_b b; omega
  have ha : ∀ b c d e, e.length ≤ 1048576 → FitOp (askO b c d e) ∧ OpB (askO b c d e) ∧ (¬ (askO b c d e).kind = 4 ∧ ¬ (askO b c d e).kind = 5) := fun b c d e he => by
    have h1 := rdRes_b c
    exact ⟨⟨by simp [askO], he, by simp [askO], hz⟩, ⟨hd b, by simp [askO], ⟨by simp only [askO]; omega, by simp only [askO]; omega, hd d⟩, by simp [askO], fun q hq => by cases hq⟩, by simp [askO], by simp [askO]⟩
  match ws, h with
  | [], h => exact hn
  | [a], h =>
    rw [rdSw]
    split
    · exact ⟨⟨by simp, by simp, by simp, hz⟩, ⟨by simp, by simp, by simp, by simp, fun q hq => by cases hq⟩, by simp, by simp⟩
    · exact hn
  | [a, b], h =>
    have hb := h b (by simp)
    rw [rdSw]
    split
    · exact ⟨⟨hb, by simp, by simp, hz⟩, ⟨by simp, by simp, by simp, by simp, fun q hq => by cases hq⟩, by simp, by simp⟩
    split
    · exact ⟨⟨hb, by simp, by simp, hz⟩, ⟨by simp, by simp, by simp, by simp, fun q hq => by cases hq⟩, by simp, by simp⟩
    split
    · exact ⟨⟨by simp, by simp, by simp, hz⟩, ⟨hd b, by simp, by simp, by simp, fun q hq => by cases hq⟩, by simp, by simp⟩
    split
    · exact ⟨⟨by simp, by simp, by simp, hz⟩, ⟨by simp, hd b, by simp, by simp, fun q hq => by cases hq⟩, by simp, by simp⟩
    · exact hn
  | [a, b, c], h => exact hn
  | [a, b, c, d], h =>
    rw [rdSw]
    split
    · exact ha b c d [] (by simp)
    · exact hn
  | [a, b, c, d, e], h =>
    rw [rdSw]
    split
    · exact ha b c d e (h e (by simp))
    · exact hn
  | a :: b :: c :: d :: e :: f :: r, h => exact hn

set_option maxRecDepth 100000 in
set_option maxHeartbeats 16000000 in
theorem specReadOp_any (l : List UInt8) (w : World) (hl : l.length ≤ 1048576) :
    Calls Tryd.prog 4 #[.string (bs l)] w fun e' w' => e' = .returned (.tuple #[opv (rdOp l).1 none 0 0, .bool (rdOp l).2]) ∧ Below w.heap.size w w' := by
  have CW := hide (fun wx => by have := specWords_any (bs l) wx (by rw [bs_size]; exact hl); rw [bs_data] at this; exact this)
  have hlen : (wordsB l).length = (words l).length := by simp [wordsB]
  have hwm : wordsB l = (words l).map bs := rfl
  have HS := hide (fun x (hx : x ∈ words l) => show x.length ≤ 1048576 by have := words_le l x hx; omega)
  have HFS := hide (sw_fits l (words l) (unhide HS))
  have HFIN := hide (fin_words l (words l) (join_words l) rfl)
  rw [show keepOp (rdWords (words l)) = rdOp l from rfl] at HFIN
  obtain ⟨fr, hfr⟩ : ∃ r, rdOp l = r := ⟨_, rfl⟩
  rw [hfr] at HFIN ⊢
  have hwl := (wordsFrom_len l [])
  obtain ⟨a, r, hws⟩ : ∃ a r, words l = a :: r := by
    cases h : words l with
    | nil => have := hwl.1; rw [show wordsFrom [] l = [] from h] at this; simp at this
    | cons a r => exact ⟨a, r, rfl⟩
  have hnl : (words l).length ≤ 1048577 := by have := hwl.2; simp only [words]; omega
  obtain ⟨n, hn⟩ : ∃ n, (words l).length = n := ⟨_, rfl⟩
  rw [hlen, hn, hwm] at CW
  rw [hn] at hnl
  rw [hws] at HS HFS HFIN CW
  have hn' : (a :: r).length = n := by rw [← hws]; exact hn
  have HWS := hide hws
  have HN := hide hn'
  have hn1 : 1 ≤ n := by rw [← hn']; simp
  clear hwl hlen hwm hfr hws hn hn' hl
  have HB0 := hide (below_al (Below.refl _ w) (.cells #[.int .i64 0, .string (⟨#[]⟩ : ByteArray), .int .i64 0, .int .i64 0, .int .i64 0, .int .i64 0, .string (⟨#[]⟩ : ByteArray), .int .i64 0, .int .i64 0, .string (⟨#[]⟩ : ByteArray), .int .i64 0, .int .i64 0, .slice none 0 0] 28))
  have R0 := hide (blk_new w #[.int .i64 0, .string (⟨#[]⟩ : ByteArray), .int .i64 0, .int .i64 0, .int .i64 0, .int .i64 0, .string (⟨#[]⟩ : ByteArray), .int .i64 0, .int .i64 0, .string (⟨#[]⟩ : ByteArray), .int .i64 0, .int .i64 0, .slice none 0 0] 28)
  go_enter Tryd.func4, Tryd.ntmps4
  go_wp2_with fail
  refine (unhide CW _).mono ?_
  rintro e w1 ⟨g, cap, rfl, hs, _, hb⟩
  have HB1 := hide (below_on (unhide HB0) hb)
  have R1 := hide ((unhide R0).below hb)
  have C0 := hide (show w1.cell? ⟨g, 0, none⟩ = some (.string (bs a)) from hs.word (j := 0) (by simp))
  have HC1 := hide (fun b (hr : r = [b]) => show w1.cell? ⟨g, 1, none⟩ = some (.string (bs b)) from by subst hr; exact hs.word (j := 1) (by simp))
  have HC4 := hide (fun b c d (e : Option (List UInt8)) (hr : r = b :: c :: d :: e.toList) => show w1.cell? ⟨g, 1, none⟩ = some (.string (bs b)) ∧ w1.cell? ⟨g, 2, none⟩ = some (.string (bs c)) ∧ w1.cell? ⟨g, 3, none⟩ = some (.string (bs d)) ∧ ∀ x, e = some x → w1.cell? ⟨g, 4, none⟩ = some (.string (bs x)) from by
    subst hr
    refine ⟨hs.word (j := 1) (by simp), hs.word (j := 2) (by simp), hs.word (j := 3) (by simp), fun x hx => ?_⟩
    subst hx
    exact hs.word (j := 4) (by simp))
  have hlt : w.heap.size < w1.heap.size := ((unhide R0).below hb).lt
  clear hb hs HB0 R0 CW
  have K1 := hide (show Kp w1 _ from below_al (Below.refl _ w1) (.cells #[.int .i64 (-1), .string (⟨#[]⟩ : ByteArray), .int .i64 0, .int .i64 0, .int .i64 0, .int .i64 0, .string (⟨#[]⟩ : ByteArray), .int .i64 0, .int .i64 0, .string (⟨#[]⟩ : ByteArray), .int .i64 0, .int .i64 0, .slice none 0 0] 28))
  have q0 := Kp.cell (unhide K1) (unhide C0)
  have hn0 : (0 : Int) < n := by omega
  go_upto_block 0 with fail
  go_cut [6] from 10 to 130 (fun v6 wx => ∃ o ok, v6 = .bool ok ∧ Hid ((o, ok) = rdSw l (a :: r)) ∧ Hid (Blk wx w1.heap.size (opc o none 0 0) 28) ∧ Hid (Kp w1 wx))
  case first =>
    have hws := unhide HWS
    have hn := unhide HN
    by_cases hkSubmit : a = kSubmit
    · have ha := hkSubmit
      have s0 : ((bs a).toList == [115, 117, 98, 109, 105, 116]) = true := by rw [is_word]; exact decide_eq_true ha
      have s1 : ((bs a).toList == [115, 101, 114, 118, 101]) = false := by rw [is_word]; rw [ha]; decide
      have s2 : ((bs a).toList == [102, 105, 110, 105, 115, 104]) = false := by rw [is_word]; rw [ha]; decide
      have s3 : ((bs a).toList == [102, 114, 101, 101]) = false := by rw [is_word]; rw [ha]; decide
      have s4 : ((bs a).toList == [97, 115, 107]) = false := by rw [is_word]; rw [ha]; decide
      have HT := hide (show ¬ l = kTick from fun e => by rw [e] at hws; simp [words, wordsFrom, kTick] at hws; rw [ha] at hws; exact absurd hws.1 (by decide))
      have HA := hide ha
      by_cases h2 : n = 2
      · obtain ⟨b, rfl⟩ : ∃ b, r = [b] := by have := hn; rw [h2] at this; match r, this with | [b], _ => exact ⟨b, rfl⟩
        have q1 : ∀ arr, (w1.alloc (.cells arr 28)).cell? ⟨g, 1, none⟩ = some (.string (bs b)) := fun arr => Kp.cell (below_al (Below.refl _ w1) _) (unhide HC1 b rfl)
        have hbl := unhide HS b (by simp)
        have CN := hide (fun wx => by have := specNameOk_any (bs b) wx (by rw [bs_size]; exact hbl); rw [bs_data] at this; exact this)
        have HE := hide (show rdSw l [a, b] = (⟨0, b, 0, ⟨0, 0, 0, [], 0⟩, 0, [], 0, 0, []⟩, nameOk b) from by rw [rdSw, ha]; rfl)
        subst h2
        clear ha hkSubmit hbl hn hws
        obtain ⟨nk, hnk⟩ : ∃ k, nameOk b = k := ⟨_, rfl⟩
        rw [hnk] at CN HE
        clear hnk
        go_wp2_with fail
        refine (unhide CN _).mono ?_
        rintro e w3 ⟨rfl, rfl⟩
        go_wp2_with fail
        go_meet
        exact ⟨⟨0, b, 0, ⟨0, 0, 0, [], 0⟩, 0, [], 0, 0, []⟩, nk, rfl, hide ((unhide HE).symm), hide (blk_new w1 _ 28), hide (below_al (Below.refl _ w1) _)⟩
      · have h2n : ¬ (n : Int) = 2 := by omega
        have HE := hide (show rdSw l (a :: r) = (⟨-1, [], 0, ⟨0, 0, 0, [], 0⟩, 0, [], 0, 0, []⟩, true) from by
          rw [ha]
          match r, hn with
          | [], _ => exact sw_one _ l (by decide) (unhide HT)
          | [x], hn => exact absurd (by simp at hn; omega) h2
          | x :: y :: r, _ => exact sw_more _ x y r l (by decide) (by decide))
        clear ha hkSubmit hn hws h2
        have ht := unhide HT
        have st := is_word l kTick
        rw [decide_eq_false ht] at st
        simp only [kTick] at st
        clear ht
        go_wp2_with fail
        go_meet
        exact ⟨⟨-1, [], 0, ⟨0, 0, 0, [], 0⟩, 0, [], 0, 0, []⟩, true, rfl, hide ((unhide HE).symm), hide (blk_new w1 _ 28), hide (below_al (Below.refl _ w1) _)⟩
    by_cases hkServe : a = kServe
    · have ha := hkServe
      have s0 : ((bs a).toList == [115, 117, 98, 109, 105, 116]) = false := by rw [is_word]; rw [ha]; decide
      have s1 : ((bs a).toList == [115, 101, 114, 118, 101]) = true := by rw [is_word]; exact decide_eq_true ha
      have s2 : ((bs a).toList == [102, 105, 110, 105, 115, 104]) = false := by rw [is_word]; rw [ha]; decide
      have s3 : ((bs a).toList == [102, 114, 101, 101]) = false := by rw [is_word]; rw [ha]; decide
      have s4 : ((bs a).toList == [97, 115, 107]) = false := by rw [is_word]; rw [ha]; decide
      have HT := hide (show ¬ l = kTick from fun e => by rw [e] at hws; simp [words, wordsFrom, kTick] at hws; rw [ha] at hws; exact absurd hws.1 (by decide))
      have HA := hide ha
      by_cases h2 : n = 2
      · obtain ⟨b, rfl⟩ : ∃ b, r = [b] := by have := hn; rw [h2] at this; match r, this with | [b], _ => exact ⟨b, rfl⟩
        have q1 : ∀ arr, (w1.alloc (.cells arr 28)).cell? ⟨g, 1, none⟩ = some (.string (bs b)) := fun arr => Kp.cell (below_al (Below.refl _ w1) _) (unhide HC1 b rfl)
        have hbl := unhide HS b (by simp)
        have CN := hide (fun wx => by have := specNameOk_any (bs b) wx (by rw [bs_size]; exact hbl); rw [bs_data] at this; exact this)
        have HE := hide (show rdSw l [a, b] = (⟨7, b, 0, ⟨0, 0, 0, [], 0⟩, 0, [], 0, 0, []⟩, nameOk b) from by rw [rdSw, ha]; rfl)
        subst h2
        clear ha hkServe hbl hn hws
        obtain ⟨nk, hnk⟩ : ∃ k, nameOk b = k := ⟨_, rfl⟩
        rw [hnk] at CN HE
        clear hnk
        go_wp2_with fail
        refine (unhide CN _).mono ?_
        rintro e w3 ⟨rfl, rfl⟩
        go_wp2_with fail
        go_meet
        exact ⟨⟨7, b, 0, ⟨0, 0, 0, [], 0⟩, 0, [], 0, 0, []⟩, nk, rfl, hide ((unhide HE).symm), hide (blk_new w1 _ 28), hide (below_al (Below.refl _ w1) _)⟩
      · have h2n : ¬ (n : Int) = 2 := by omega
        have HE := hide (show rdSw l (a :: r) = (⟨-1, [], 0, ⟨0, 0, 0, [], 0⟩, 0, [], 0, 0, []⟩, true) from by
          rw [ha]
          match r, hn with
          | [], _ => exact sw_one _ l (by decide) (unhide HT)
          | [x], hn => exact absurd (by simp at hn; omega) h2
          | x :: y :: r, _ => exact sw_more _ x y r l (by decide) (by decide))
        clear ha hkServe hn hws h2
        have ht := unhide HT
        have st := is_word l kTick
        rw [decide_eq_false ht] at st
        simp only [kTick] at st
        clear ht
        go_wp2_with fail
        go_meet
        exact ⟨⟨-1, [], 0, ⟨0, 0, 0, [], 0⟩, 0, [], 0, 0, []⟩, true, rfl, hide ((unhide HE).symm), hide (blk_new w1 _ 28), hide (below_al (Below.refl _ w1) _)⟩
    by_cases hkFinish : a = kFinish
    · have ha := hkFinish
      have s0 : ((bs a).toList == [115, 117, 98, 109, 105, 116]) = false := by rw [is_word]; rw [ha]; decide
      have s1 : ((bs a).toList == [115, 101, 114, 118, 101]) = false := by rw [is_word]; rw [ha]; decide
      have s2 : ((bs a).toList == [102, 105, 110, 105, 115, 104]) = true := by rw [is_word]; exact decide_eq_true ha
      have s3 : ((bs a).toList == [102, 114, 101, 101]) = false := by rw [is_word]; rw [ha]; decide
      have s4 : ((bs a).toList == [97, 115, 107]) = false := by rw [is_word]; rw [ha]; decide
      have HT := hide (show ¬ l = kTick from fun e => by rw [e] at hws; simp [words, wordsFrom, kTick] at hws; rw [ha] at hws; exact absurd hws.1 (by decide))
      have HA := hide ha
      by_cases h2 : n = 2
      · obtain ⟨b, rfl⟩ : ∃ b, r = [b] := by have := hn; rw [h2] at this; match r, this with | [b], _ => exact ⟨b, rfl⟩
        have q1 : ∀ arr, (w1.alloc (.cells arr 28)).cell? ⟨g, 1, none⟩ = some (.string (bs b)) := fun arr => Kp.cell (below_al (Below.refl _ w1) _) (unhide HC1 b rfl)
        have hbl := unhide HS b (by simp)
        have CN := hide (fun wx => by have := specReadDec_any (bs b) wx (by rw [bs_size]; exact hbl); rw [bs_data] at this; exact this)
        have HE := hide (show rdSw l [a, b] = (⟨1, [], readDec b, ⟨0, 0, 0, [], 0⟩, 0, [], 0, 0, []⟩, true) from by rw [rdSw, ha]; rfl)
        subst h2
        clear ha hkFinish hbl hn hws
        obtain ⟨nd, hnd⟩ : ∃ k, readDec b = k := ⟨_, rfl⟩
        rw [hnd] at CN HE
        clear hnd
        go_wp2_with fail
        refine (unhide CN _).mono ?_
        rintro e w3 ⟨rfl, rfl⟩
        go_wp2_with fail
        go_meet
        exact ⟨⟨1, [], nd, ⟨0, 0, 0, [], 0⟩, 0, [], 0, 0, []⟩, true, rfl, hide ((unhide HE).symm), hide (blk_new w1 _ 28), hide (below_al (Below.refl _ w1) _)⟩
      · have h2n : ¬ (n : Int) = 2 := by omega
        have HE := hide (show rdSw l (a :: r) = (⟨-1, [], 0, ⟨0, 0, 0, [], 0⟩, 0, [], 0, 0, []⟩, true) from by
          rw [ha]
          match r, hn with
          | [], _ => exact sw_one _ l (by decide) (unhide HT)
          | [x], hn => exact absurd (by simp at hn; omega) h2
          | x :: y :: r, _ => exact sw_more _ x y r l (by decide) (by decide))
        clear ha hkFinish hn hws h2
        have ht := unhide HT
        have st := is_word l kTick
        rw [decide_eq_false ht] at st
        simp only [kTick] at st
        clear ht
        go_wp2_with fail
        go_meet
        exact ⟨⟨-1, [], 0, ⟨0, 0, 0, [], 0⟩, 0, [], 0, 0, []⟩, true, rfl, hide ((unhide HE).symm), hide (blk_new w1 _ 28), hide (below_al (Below.refl _ w1) _)⟩
    by_cases hkFree : a = kFree
    · have ha := hkFree
      have s0 : ((bs a).toList == [115, 117, 98, 109, 105, 116]) = false := by rw [is_word]; rw [ha]; decide
      have s1 : ((bs a).toList == [115, 101, 114, 118, 101]) = false := by rw [is_word]; rw [ha]; decide
      have s2 : ((bs a).toList == [102, 105, 110, 105, 115, 104]) = false := by rw [is_word]; rw [ha]; decide
      have s3 : ((bs a).toList == [102, 114, 101, 101]) = true := by rw [is_word]; exact decide_eq_true ha
      have s4 : ((bs a).toList == [97, 115, 107]) = false := by rw [is_word]; rw [ha]; decide
      have HT := hide (show ¬ l = kTick from fun e => by rw [e] at hws; simp [words, wordsFrom, kTick] at hws; rw [ha] at hws; exact absurd hws.1 (by decide))
      have HA := hide ha
      by_cases h2 : n = 2
      · obtain ⟨b, rfl⟩ : ∃ b, r = [b] := by have := hn; rw [h2] at this; match r, this with | [b], _ => exact ⟨b, rfl⟩
        have q1 : ∀ arr, (w1.alloc (.cells arr 28)).cell? ⟨g, 1, none⟩ = some (.string (bs b)) := fun arr => Kp.cell (below_al (Below.refl _ w1) _) (unhide HC1 b rfl)
        have hbl := unhide HS b (by simp)
        have CN := hide (fun wx => by have := specReadDec_any (bs b) wx (by rw [bs_size]; exact hbl); rw [bs_data] at this; exact this)
        have HE := hide (show rdSw l [a, b] = (⟨3, [], 0, ⟨0, 0, 0, [], 0⟩, readDec b, [], 0, 0, []⟩, true) from by rw [rdSw, ha]; rfl)
        subst h2
        clear ha hkFree hbl hn hws
        obtain ⟨nd, hnd⟩ : ∃ k, readDec b = k := ⟨_, rfl⟩
        rw [hnd] at CN HE
        clear hnd
        go_wp2_with fail
        refine (unhide CN _).mono ?_
        rintro e w3 ⟨rfl, rfl⟩
        go_wp2_with fail
        go_meet
        exact ⟨⟨3, [], 0, ⟨0, 0, 0, [], 0⟩, nd, [], 0, 0, []⟩, true, rfl, hide ((unhide HE).symm), hide (blk_new w1 _ 28), hide (below_al (Below.refl _ w1) _)⟩
      · have h2n : ¬ (n : Int) = 2 := by omega
        have HE := hide (show rdSw l (a :: r) = (⟨-1, [], 0, ⟨0, 0, 0, [], 0⟩, 0, [], 0, 0, []⟩, true) from by
          rw [ha]
          match r, hn with
          | [], _ => exact sw_one _ l (by decide) (unhide HT)
          | [x], hn => exact absurd (by simp at hn; omega) h2
          | x :: y :: r, _ => exact sw_more _ x y r l (by decide) (by decide))
        clear ha hkFree hn hws h2
        have ht := unhide HT
        have st := is_word l kTick
        rw [decide_eq_false ht] at st
        simp only [kTick] at st
        clear ht
        go_wp2_with fail
        go_meet
        exact ⟨⟨-1, [], 0, ⟨0, 0, 0, [], 0⟩, 0, [], 0, 0, []⟩, true, rfl, hide ((unhide HE).symm), hide (blk_new w1 _ 28), hide (below_al (Below.refl _ w1) _)⟩
    by_cases hkAsk : a = kAsk
    · have ha := hkAsk
      have s0 : ((bs a).toList == [115, 117, 98, 109, 105, 116]) = false := by rw [is_word]; rw [ha]; decide
      have s1 : ((bs a).toList == [115, 101, 114, 118, 101]) = false := by rw [is_word]; rw [ha]; decide
      have s2 : ((bs a).toList == [102, 105, 110, 105, 115, 104]) = false := by rw [is_word]; rw [ha]; decide
      have s3 : ((bs a).toList == [102, 114, 101, 101]) = false := by rw [is_word]; rw [ha]; decide
      have s4 : ((bs a).toList == [97, 115, 107]) = true := by rw [is_word]; exact decide_eq_true ha
      have HT := hide (show ¬ l = kTick from fun e => by rw [e] at hws; simp [words, wordsFrom, kTick] at hws; rw [ha] at hws; exact absurd hws.1 (by decide))
      have ht := unhide HT
      have st := is_word l kTick
      rw [decide_eq_false ht] at st
      simp only [kTick] at st
      clear ht
      by_cases h45 : 4 ≤ n ∧ n ≤ 5
      · obtain ⟨b, c, d, e, hr, hne⟩ : ∃ (b c d : List UInt8) (e : Option (List UInt8)), r = b :: c :: d :: e.toList ∧ n = 4 + (if e.isSome then 1 else 0) := by
          match r, hn with
          | [b, c, d], hn => exact ⟨b, c, d, none, rfl, by simp at hn ⊢; omega⟩
          | [b, c, d, e], hn => exact ⟨b, c, d, some e, rfl, by simp at hn ⊢; omega⟩
          | [], hn => simp at hn; omega
          | [_], hn => simp at hn; omega
          | [_, _], hn => simp at hn; omega
          | _ :: _ :: _ :: _ :: _ :: _, hn => simp at hn; omega
        have HNE := hide hne
        clear hne
        subst hr
        obtain ⟨p1, p2, p3, p4⟩ := unhide HC4 b c d e rfl
        have hbl := unhide HS b (by simp)
        have hcl := unhide HS c (by simp)
        have hdl := unhide HS d (by simp)
        have HEL := hide (fun x (hx : e = some x) => unhide HS x (by rw [hx]; simp))
        have CB := hide (fun wx => by have := specReadDec_any (bs b) wx (by rw [bs_size]; exact hbl); rw [bs_data] at this; exact this)
        have CD := hide (fun wx => by have := specReadDec_any (bs d) wx (by rw [bs_size]; exact hdl); rw [bs_data] at this; exact this)
        have CR := hide (fun wx => by have := specReadRes_any (bs c) wx (by rw [bs_size]; exact hcl); rw [bs_data, readRV_pair] at this; exact this)
        have HE := hide (show rdSw l (a :: b :: c :: d :: e.toList) = (askO b c d (e.getD []), readROk c && nodeOk e) from by rw [ha]; cases e <;> rfl)
        unfold askO at HE
        obtain ⟨⟨rm, rc⟩, hre⟩ : ∃ r, rdRes c = r := ⟨_, rfl⟩
        obtain ⟨ro, hro⟩ : ∃ r, readROk c = r := ⟨_, rfl⟩
        obtain ⟨nb, hnb⟩ : ∃ r, readDec b = r := ⟨_, rfl⟩
        obtain ⟨nd, hnd⟩ : ∃ r, readDec d = r := ⟨_, rfl⟩
        rw [hre, hro] at CR HE
        rw [hnb] at CB HE
        rw [hnd] at CD HE
        simp only at CR HE
        have P1 := hide p1
        have P2 := hide p2
        have P3 := hide p3
        have P4 := hide p4
        have q1 : ∀ arr, (w1.alloc (.cells arr 28)).cell? ⟨g, 1, none⟩ = some (.string (bs b)) := fun arr => Kp.cell (below_al (Below.refl _ w1) _) p1
        have q2 : ∀ arr, (w1.alloc (.cells arr 28)).cell? ⟨g, 2, none⟩ = some (.string (bs c)) := fun arr => Kp.cell (below_al (Below.refl _ w1) _) p2
        have e45 : inB (n : Int) 4 5 = true := inB_true (by omega) (by omega)
        have hn1 : (1 : Int) < n := by omega
        have hn2 : (2 : Int) < n := by omega
        have hn3 : (3 : Int) < n := by omega
        clear ha hkAsk hbl hcl hdl hn hws hre hro hnb hnd p1 p2 p3 p4
        go_wp2_with fail
        refine (l01In_any _ _ _ _).mono ?_
        rintro e1 w3 ⟨rfl, rfl⟩
        try rw [e45]
        go_wp2_with fail
        refine (unhide CB _).mono ?_
        rintro e1 w3 ⟨rfl, rfl⟩
        go_wp2_with fail
        refine (unhide CR _).mono ?_
        rintro e1 w3 ⟨rfl, hb⟩
        have O3 := hide ((blk_new w1 #[.int .i64 2, .string (⟨#[]⟩ : ByteArray), .int .i64 nb, .int .i64 0, .int .i64 0, .int .i64 0, .string (⟨#[]⟩ : ByteArray), .int .i64 0, .int .i64 0, .string (⟨#[]⟩ : ByteArray), .int .i64 0, .int .i64 0, .slice none 0 0] 28).below hb)
        have K3 := hide (show Kp w1 w3 from below_on (below_al (Below.refl _ w1) _) hb)
        clear hb CB CR q1 q2
        have o3 := (unhide O3).at 3; have o4 := (unhide O3).at 4; have o5 := (unhide O3).at 5; have o6 := (unhide O3).at 6
        have f3 := (unhide O3).f 3; have f4 := (unhide O3).f 4; have f5 := (unhide O3).f 5; have f6 := (unhide O3).f 6
        simp at o3 o4 o5 o6
        have K5 := hide (show Kp w1 ((w3.setCell ⟨w1.heap.size, 3, none⟩ (.int .i64 rm)).setCell ⟨w1.heap.size, 4, none⟩ (.int .i64 rc)) from below_sc (below_sc (unhide K3) w1.heap.size 3 _ (Nat.le_refl _)) w1.heap.size 4 _ (Nat.le_refl _))
        have q3 := Kp.cell (unhide K5) (unhide P3)
        go_wp2_with fail
        refine (unhide CD _).mono ?_
        rintro e1 w4 ⟨rfl, rfl⟩
        have O5 := hide (show Blk (((w3.setCell ⟨w1.heap.size, 3, none⟩ (.int .i64 rm)).setCell ⟨w1.heap.size, 4, none⟩ (.int .i64 rc)).setCell ⟨w1.heap.size, 5, none⟩ (.int .i64 nd)) w1.heap.size #[.int .i64 2, .string (⟨#[]⟩ : ByteArray), .int .i64 nb, .int .i64 rm, .int .i64 rc, .int .i64 nd, .string (⟨#[]⟩ : ByteArray), .int .i64 0, .int .i64 0, .string (⟨#[]⟩ : ByteArray), .int .i64 0, .int .i64 0, .slice none 0 0] 28 from (((unhide O3).set 3 (.int .i64 rm)).set 4 (.int .i64 rc)).set 5 (.int .i64 nd))
        have K6 := hide (show Kp w1 (((w3.setCell ⟨w1.heap.size, 3, none⟩ (.int .i64 rm)).setCell ⟨w1.heap.size, 4, none⟩ (.int .i64 rc)).setCell ⟨w1.heap.size, 5, none⟩ (.int .i64 nd)) from below_sc (unhide K5) w1.heap.size 5 _ (Nat.le_refl _))
        cases e with
        | none =>
          have hn5 : ¬ (n : Int) = 5 := by have hne := unhide HNE; simp at hne; omega
          go_wp2_with fail
          go_meet
          exact ⟨⟨2, [], nb, ⟨rm, rc, nd, [], 0⟩, 0, [], 0, 0, []⟩, ro, rfl, hide (by rw [unhide HE]; cases ro <;> rfl), O5, K6⟩
        | some x =>
          obtain rfl : n = 5 := by have hne := unhide HNE; simp at hne; omega
          have q4 := Kp.cell (unhide K6) (unhide P4 x rfl)
          have k6 := (unhide O5).at 6
          have fk6 := (unhide O5).f 6
          simp at k6
          have O7 := hide (show Blk ((((w3.setCell ⟨w1.heap.size, 3, none⟩ (.int .i64 rm)).setCell ⟨w1.heap.size, 4, none⟩ (.int .i64 rc)).setCell ⟨w1.heap.size, 5, none⟩ (.int .i64 nd)).setCell ⟨w1.heap.size, 6, none⟩ (.string (bs x))) w1.heap.size #[.int .i64 2, .string (⟨#[]⟩ : ByteArray), .int .i64 nb, .int .i64 rm, .int .i64 rc, .int .i64 nd, .string (bs x), .int .i64 0, .int .i64 0, .string (⟨#[]⟩ : ByteArray), .int .i64 0, .int .i64 0, .slice none 0 0] 28 from (unhide O5).set 6 (.string (bs x)))
          have K7 := hide (show Kp w1 ((((w3.setCell ⟨w1.heap.size, 3, none⟩ (.int .i64 rm)).setCell ⟨w1.heap.size, 4, none⟩ (.int .i64 rc)).setCell ⟨w1.heap.size, 5, none⟩ (.int .i64 nd)).setCell ⟨w1.heap.size, 6, none⟩ (.string (bs x))) from below_sc (unhide K6) w1.heap.size 6 _ (Nat.le_refl _))
          have q5 := Kp.cell (unhide K7) (unhide P4 x rfl)
          have hxl := unhide HEL x rfl
          have CN := hide (fun wx => by have := specNameOk_any (bs x) wx (by rw [bs_size]; exact hxl); rw [bs_data] at this; exact this)
          obtain ⟨nk, hnk⟩ : ∃ k, nameOk x = k := ⟨_, rfl⟩
          have HE2 := hide (unhide HE)
          rw [show nodeOk (some x) = nk from hnk] at HE2
          rw [hnk] at CN
          clear hnk hxl
          cases ro
          case false =>
            go_wp2_with fail
            go_meet
            exact ⟨⟨2, [], nb, ⟨rm, rc, nd, x, 0⟩, 0, [], 0, 0, []⟩, false, rfl, hide (by rw [unhide HE2]; rfl), O7, K7⟩
          case true =>
            go_wp2_with fail
            refine (unhide CN _).mono ?_
            rintro e1 w5 ⟨rfl, rfl⟩
            go_wp2_with fail
            go_meet
            exact ⟨⟨2, [], nb, ⟨rm, rc, nd, x, 0⟩, 0, [], 0, 0, []⟩, nk, rfl, hide (by rw [unhide HE2]; rfl), O7, K7⟩
      · have e45 : inB (n : Int) 4 5 = false := inB_false (by omega)
        have HE := hide (show rdSw l (a :: r) = (⟨-1, [], 0, ⟨0, 0, 0, [], 0⟩, 0, [], 0, 0, []⟩, true) from by
          rw [ha]
          match r, hn with
          | [], _ => exact sw_one _ l (by decide) (unhide HT)
          | [x], hn => exact sw_two _ x l (by decide)
          | [x, y], hn => rfl
          | [x, y, z], hn => simp at hn; omega
          | [x, y, z, u], hn => simp at hn; omega
          | x :: y :: z :: u :: v :: r, _ => rfl)
        clear ha hkAsk hn hws
        go_wp2_with fail
        refine (l01In_any _ _ _ _).mono ?_
        rintro e1 w3 ⟨rfl, rfl⟩
        try rw [e45]
        go_wp2_with fail
        go_meet
        exact ⟨⟨-1, [], 0, ⟨0, 0, 0, [], 0⟩, 0, [], 0, 0, []⟩, true, rfl, hide ((unhide HE).symm), hide (blk_new w1 _ 28), hide (below_al (Below.refl _ w1) _)⟩
    have s0 : ((bs a).toList == [115, 117, 98, 109, 105, 116]) = false := by rw [is_word]; exact decide_eq_false hkSubmit
    have s1 : ((bs a).toList == [115, 101, 114, 118, 101]) = false := by rw [is_word]; exact decide_eq_false hkServe
    have s2 : ((bs a).toList == [102, 105, 110, 105, 115, 104]) = false := by rw [is_word]; exact decide_eq_false hkFinish
    have s3 : ((bs a).toList == [102, 114, 101, 101]) = false := by rw [is_word]; exact decide_eq_false hkFree
    have s4 : ((bs a).toList == [97, 115, 107]) = false := by rw [is_word]; exact decide_eq_false hkAsk
    have st := is_word l kTick
    by_cases ht : l = kTick
    · rw [decide_eq_true ht] at st
      simp only [kTick] at st
      have HE := hide (show rdSw l (a :: r) = (⟨6, [], 0, ⟨0, 0, 0, [], 0⟩, 0, [], 0, 0, []⟩, true) from by
        rw [ht] at hws ⊢
        rw [← hws, show words kTick = [kTick] by decide, rdSw, if_pos rfl])
      clear ht hkSubmit hkServe hkFinish hkFree hkAsk hn hws
      go_wp2_with fail
      go_meet
      exact ⟨⟨6, [], 0, ⟨0, 0, 0, [], 0⟩, 0, [], 0, 0, []⟩, true, rfl, hide ((unhide HE).symm), hide (blk_new w1 _ 28), hide (below_al (Below.refl _ w1) _)⟩
    · rw [decide_eq_false ht] at st
      simp only [kTick] at st
      have HE := hide (show rdSw l (a :: r) = (⟨-1, [], 0, ⟨0, 0, 0, [], 0⟩, 0, [], 0, 0, []⟩, true) from sw_other a r l hkSubmit hkServe hkFinish hkFree hkAsk ht)
      clear ht hkSubmit hkServe hkFinish hkFree hkAsk hn hws
      go_wp2_with fail
      go_meet
      exact ⟨⟨-1, [], 0, ⟨0, 0, 0, [], 0⟩, 0, [], 0, 0, []⟩, true, rfl, hide ((unhide HE).symm), hide (blk_new w1 _ 28), hide (below_al (Below.refl _ w1) _)⟩
  case rest =>
    obtain ⟨o, ok, rfl, HO, O2, K2⟩ := hcut
    obtain ⟨w2, rfl⟩ : ∃ w2, w2 = wc := ⟨wc, rfl⟩
    have HF := hide (unhide HFIN)
    have hfit := unhide HFS
    rw [← unhide HO] at HF hfit
    simp only at hfit
    have CT := hide (fun wx => specOpT_any o wx hfit.2.2.1 hfit.2.2.2 hfit.1 hfit.2.1)
    unfold rdFin at HF
    obtain ⟨tl, htl⟩ : ∃ t, opL o = t := ⟨_, rfl⟩
    simp only at HF
    rw [htl] at HF CT
    obtain ⟨kind, queue, app, ⟨am, ac, an, ad, ai⟩, cont, node, mem, cpu, conts⟩ := o
    simp only at HF
    have HB2 := hide (below_on (unhide HB1) (unhide K2))
    have R2 := hide ((unhide R1).below (unhide K2))
    have sl := bs_empty l
    have s2 := bs_eq tl l
    clear hfit htl HO HFIN HFS HS HWS HN HC1 HC4 C0 K1 HB1 R1 K2 q0
    have o2 := (unhide O2).at 2; have o8 := (unhide O2).at 8; have o5 := (unhide O2).at 5
    simp at o2 o8 o5
    cases ok
    case false =>
      have HE := hide (show fr = (zop, false) from by rw [← unhide HF]; rfl)
      have k0 := (unhide R2).at 0; have k1 := (unhide R2).at 1; have k2 := (unhide R2).at 2; have k3 := (unhide R2).at 3; have k4 := (unhide R2).at 4; have k5 := (unhide R2).at 5; have k6 := (unhide R2).at 6; have k7 := (unhide R2).at 7; have k8 := (unhide R2).at 8; have k9 := (unhide R2).at 9; have k10 := (unhide R2).at 10; have k11 := (unhide R2).at 11; have k12 := (unhide R2).at 12
      have fk0 := (unhide R2).f 0; have fk1 := (unhide R2).f 1; have fk2 := (unhide R2).f 2; have fk3 := (unhide R2).f 3; have fk4 := (unhide R2).f 4; have fk5 := (unhide R2).f 5; have fk6 := (unhide R2).f 6; have fk7 := (unhide R2).f 7; have fk8 := (unhide R2).f 8; have fk9 := (unhide R2).f 9; have fk10 := (unhide R2).f 10; have fk11 := (unhide R2).f 11; have fk12 := (unhide R2).f 12
      simp at k0 k1 k2 k3 k4 k5 k6 k7 k8 k9 k10 k11 k12
      have HX := hide (show Blk (((((((((((((w2.setCell ⟨w.heap.size, 0, none⟩ (.int .i64 0)).setCell ⟨w.heap.size, 1, none⟩ (.string (⟨#[]⟩ : ByteArray))).setCell ⟨w.heap.size, 2, none⟩ (.int .i64 0)).setCell ⟨w.heap.size, 3, none⟩ (.int .i64 0)).setCell ⟨w.heap.size, 4, none⟩ (.int .i64 0)).setCell ⟨w.heap.size, 5, none⟩ (.int .i64 0)).setCell ⟨w.heap.size, 6, none⟩ (.string (⟨#[]⟩ : ByteArray))).setCell ⟨w.heap.size, 7, none⟩ (.int .i64 0)).setCell ⟨w.heap.size, 8, none⟩ (.int .i64 0)).setCell ⟨w.heap.size, 9, none⟩ (.string (⟨#[]⟩ : ByteArray))).setCell ⟨w.heap.size, 10, none⟩ (.int .i64 0)).setCell ⟨w.heap.size, 11, none⟩ (.int .i64 0)).setCell ⟨w.heap.size, 12, none⟩ (.slice none 0 0)) (w.heap.size) #[.int .i64 0, .string (⟨#[]⟩ : ByteArray), .int .i64 0, .int .i64 0, .int .i64 0, .int .i64 0, .string (⟨#[]⟩ : ByteArray), .int .i64 0, .int .i64 0, .string (⟨#[]⟩ : ByteArray), .int .i64 0, .int .i64 0, .slice none 0 0] 28 from (Blk.sets (unhide R2) [.int .i64 0, .string (⟨#[]⟩ : ByteArray), .int .i64 0, .int .i64 0, .int .i64 0, .int .i64 0, .string (⟨#[]⟩ : ByteArray), .int .i64 0, .int .i64 0, .string (⟨#[]⟩ : ByteArray), .int .i64 0, .int .i64 0, .slice none 0 0] rfl))
      have HY := hide (show Below w.heap.size w (((((((((((((w2.setCell ⟨w.heap.size, 0, none⟩ (.int .i64 0)).setCell ⟨w.heap.size, 1, none⟩ (.string (⟨#[]⟩ : ByteArray))).setCell ⟨w.heap.size, 2, none⟩ (.int .i64 0)).setCell ⟨w.heap.size, 3, none⟩ (.int .i64 0)).setCell ⟨w.heap.size, 4, none⟩ (.int .i64 0)).setCell ⟨w.heap.size, 5, none⟩ (.int .i64 0)).setCell ⟨w.heap.size, 6, none⟩ (.string (⟨#[]⟩ : ByteArray))).setCell ⟨w.heap.size, 7, none⟩ (.int .i64 0)).setCell ⟨w.heap.size, 8, none⟩ (.int .i64 0)).setCell ⟨w.heap.size, 9, none⟩ (.string (⟨#[]⟩ : ByteArray))).setCell ⟨w.heap.size, 10, none⟩ (.int .i64 0)).setCell ⟨w.heap.size, 11, none⟩ (.int .i64 0)).setCell ⟨w.heap.size, 12, none⟩ (.slice none 0 0)) from (below_sets (unhide HB2) (g := w.heap.size) (by omega) 0 [.int .i64 0, .string (⟨#[]⟩ : ByteArray), .int .i64 0, .int .i64 0, .int .i64 0, .int .i64 0, .string (⟨#[]⟩ : ByteArray), .int .i64 0, .int .i64 0, .string (⟨#[]⟩ : ByteArray), .int .i64 0, .int .i64 0, .slice none 0 0]))
      go_wp2
      generalize (((((((((((((w2.setCell ⟨w.heap.size, 0, none⟩ (.int .i64 0)).setCell ⟨w.heap.size, 1, none⟩ (.string (⟨#[]⟩ : ByteArray))).setCell ⟨w.heap.size, 2, none⟩ (.int .i64 0)).setCell ⟨w.heap.size, 3, none⟩ (.int .i64 0)).setCell ⟨w.heap.size, 4, none⟩ (.int .i64 0)).setCell ⟨w.heap.size, 5, none⟩ (.int .i64 0)).setCell ⟨w.heap.size, 6, none⟩ (.string (⟨#[]⟩ : ByteArray))).setCell ⟨w.heap.size, 7, none⟩ (.int .i64 0)).setCell ⟨w.heap.size, 8, none⟩ (.int .i64 0)).setCell ⟨w.heap.size, 9, none⟩ (.string (⟨#[]⟩ : ByteArray))).setCell ⟨w.heap.size, 10, none⟩ (.int .i64 0)).setCell ⟨w.heap.size, 11, none⟩ (.int .i64 0)).setCell ⟨w.heap.size, 12, none⟩ (.slice none 0 0)) = W9 at HX HY ⊢
      have z0 := (unhide HX).at 0; have z1 := (unhide HX).at 1; have z2 := (unhide HX).at 2; have z3 := (unhide HX).at 3; have z4 := (unhide HX).at 4; have z5 := (unhide HX).at 5; have z6 := (unhide HX).at 6; have z7 := (unhide HX).at 7; have z8 := (unhide HX).at 8; have z9 := (unhide HX).at 9; have z10 := (unhide HX).at 10; have z11 := (unhide HX).at 11; have z12 := (unhide HX).at 12
      simp at z0 z1 z2 z3 z4 z5 z6 z7 z8 z9 z10 z11 z12
      refine bodyPost_ret (v := .tuple #[opv ⟨0, [], 0, ⟨0, 0, 0, [], 0⟩, 0, [], 0, 0, []⟩ none 0 0, .bool false]) (by simp [results, Tryd.results4, go_sem, z0, z1, z2, z3, z4, z5, z6, z7, z8, z9, z10, z11, z12]; try rfl) rfl ⟨by rw [unhide HE]; rfl, unhide HY⟩
    by_cases h1 : app < 0
    · rw [decide_eq_true h1] at HF
      have HE := hide (show fr = (zop, false) from by rw [← unhide HF]; rfl)
      have k0 := (unhide R2).at 0; have k1 := (unhide R2).at 1; have k2 := (unhide R2).at 2; have k3 := (unhide R2).at 3; have k4 := (unhide R2).at 4; have k5 := (unhide R2).at 5; have k6 := (unhide R2).at 6; have k7 := (unhide R2).at 7; have k8 := (unhide R2).at 8; have k9 := (unhide R2).at 9; have k10 := (unhide R2).at 10; have k11 := (unhide R2).at 11; have k12 := (unhide R2).at 12
      have fk0 := (unhide R2).f 0; have fk1 := (unhide R2).f 1; have fk2 := (unhide R2).f 2; have fk3 := (unhide R2).f 3; have fk4 := (unhide R2).f 4; have fk5 := (unhide R2).f 5; have fk6 := (unhide R2).f 6; have fk7 := (unhide R2).f 7; have fk8 := (unhide R2).f 8; have fk9 := (unhide R2).f 9; have fk10 := (unhide R2).f 10; have fk11 := (unhide R2).f 11; have fk12 := (unhide R2).f 12
      simp at k0 k1 k2 k3 k4 k5 k6 k7 k8 k9 k10 k11 k12
      have HX := hide (show Blk (((((((((((((w2.setCell ⟨w.heap.size, 0, none⟩ (.int .i64 0)).setCell ⟨w.heap.size, 1, none⟩ (.string (⟨#[]⟩ : ByteArray))).setCell ⟨w.heap.size, 2, none⟩ (.int .i64 0)).setCell ⟨w.heap.size, 3, none⟩ (.int .i64 0)).setCell ⟨w.heap.size, 4, none⟩ (.int .i64 0)).setCell ⟨w.heap.size, 5, none⟩ (.int .i64 0)).setCell ⟨w.heap.size, 6, none⟩ (.string (⟨#[]⟩ : ByteArray))).setCell ⟨w.heap.size, 7, none⟩ (.int .i64 0)).setCell ⟨w.heap.size, 8, none⟩ (.int .i64 0)).setCell ⟨w.heap.size, 9, none⟩ (.string (⟨#[]⟩ : ByteArray))).setCell ⟨w.heap.size, 10, none⟩ (.int .i64 0)).setCell ⟨w.heap.size, 11, none⟩ (.int .i64 0)).setCell ⟨w.heap.size, 12, none⟩ (.slice none 0 0)) (w.heap.size) #[.int .i64 0, .string (⟨#[]⟩ : ByteArray), .int .i64 0, .int .i64 0, .int .i64 0, .int .i64 0, .string (⟨#[]⟩ : ByteArray), .int .i64 0, .int .i64 0, .string (⟨#[]⟩ : ByteArray), .int .i64 0, .int .i64 0, .slice none 0 0] 28 from (Blk.sets (unhide R2) [.int .i64 0, .string (⟨#[]⟩ : ByteArray), .int .i64 0, .int .i64 0, .int .i64 0, .int .i64 0, .string (⟨#[]⟩ : ByteArray), .int .i64 0, .int .i64 0, .string (⟨#[]⟩ : ByteArray), .int .i64 0, .int .i64 0, .slice none 0 0] rfl))
      have HY := hide (show Below w.heap.size w (((((((((((((w2.setCell ⟨w.heap.size, 0, none⟩ (.int .i64 0)).setCell ⟨w.heap.size, 1, none⟩ (.string (⟨#[]⟩ : ByteArray))).setCell ⟨w.heap.size, 2, none⟩ (.int .i64 0)).setCell ⟨w.heap.size, 3, none⟩ (.int .i64 0)).setCell ⟨w.heap.size, 4, none⟩ (.int .i64 0)).setCell ⟨w.heap.size, 5, none⟩ (.int .i64 0)).setCell ⟨w.heap.size, 6, none⟩ (.string (⟨#[]⟩ : ByteArray))).setCell ⟨w.heap.size, 7, none⟩ (.int .i64 0)).setCell ⟨w.heap.size, 8, none⟩ (.int .i64 0)).setCell ⟨w.heap.size, 9, none⟩ (.string (⟨#[]⟩ : ByteArray))).setCell ⟨w.heap.size, 10, none⟩ (.int .i64 0)).setCell ⟨w.heap.size, 11, none⟩ (.int .i64 0)).setCell ⟨w.heap.size, 12, none⟩ (.slice none 0 0)) from (below_sets (unhide HB2) (g := w.heap.size) (by omega) 0 [.int .i64 0, .string (⟨#[]⟩ : ByteArray), .int .i64 0, .int .i64 0, .int .i64 0, .int .i64 0, .string (⟨#[]⟩ : ByteArray), .int .i64 0, .int .i64 0, .string (⟨#[]⟩ : ByteArray), .int .i64 0, .int .i64 0, .slice none 0 0]))
      go_wp2
      generalize (((((((((((((w2.setCell ⟨w.heap.size, 0, none⟩ (.int .i64 0)).setCell ⟨w.heap.size, 1, none⟩ (.string (⟨#[]⟩ : ByteArray))).setCell ⟨w.heap.size, 2, none⟩ (.int .i64 0)).setCell ⟨w.heap.size, 3, none⟩ (.int .i64 0)).setCell ⟨w.heap.size, 4, none⟩ (.int .i64 0)).setCell ⟨w.heap.size, 5, none⟩ (.int .i64 0)).setCell ⟨w.heap.size, 6, none⟩ (.string (⟨#[]⟩ : ByteArray))).setCell ⟨w.heap.size, 7, none⟩ (.int .i64 0)).setCell ⟨w.heap.size, 8, none⟩ (.int .i64 0)).setCell ⟨w.heap.size, 9, none⟩ (.string (⟨#[]⟩ : ByteArray))).setCell ⟨w.heap.size, 10, none⟩ (.int .i64 0)).setCell ⟨w.heap.size, 11, none⟩ (.int .i64 0)).setCell ⟨w.heap.size, 12, none⟩ (.slice none 0 0)) = W9 at HX HY ⊢
      have z0 := (unhide HX).at 0; have z1 := (unhide HX).at 1; have z2 := (unhide HX).at 2; have z3 := (unhide HX).at 3; have z4 := (unhide HX).at 4; have z5 := (unhide HX).at 5; have z6 := (unhide HX).at 6; have z7 := (unhide HX).at 7; have z8 := (unhide HX).at 8; have z9 := (unhide HX).at 9; have z10 := (unhide HX).at 10; have z11 := (unhide HX).at 11; have z12 := (unhide HX).at 12
      simp at z0 z1 z2 z3 z4 z5 z6 z7 z8 z9 z10 z11 z12
      refine bodyPost_ret (v := .tuple #[opv ⟨0, [], 0, ⟨0, 0, 0, [], 0⟩, 0, [], 0, 0, []⟩ none 0 0, .bool false]) (by simp [results, Tryd.results4, go_sem, z0, z1, z2, z3, z4, z5, z6, z7, z8, z9, z10, z11, z12]; try rfl) rfl ⟨by rw [unhide HE]; rfl, unhide HY⟩
    rw [decide_eq_false h1] at HF
    by_cases h2 : cont < 0
    · rw [decide_eq_true h2] at HF
      have HE := hide (show fr = (zop, false) from by rw [← unhide HF]; rfl)
      have k0 := (unhide R2).at 0; have k1 := (unhide R2).at 1; have k2 := (unhide R2).at 2; have k3 := (unhide R2).at 3; have k4 := (unhide R2).at 4; have k5 := (unhide R2).at 5; have k6 := (unhide R2).at 6; have k7 := (unhide R2).at 7; have k8 := (unhide R2).at 8; have k9 := (unhide R2).at 9; have k10 := (unhide R2).at 10; have k11 := (unhide R2).at 11; have k12 := (unhide R2).at 12
      have fk0 := (unhide R2).f 0; have fk1 := (unhide R2).f 1; have fk2 := (unhide R2).f 2; have fk3 := (unhide R2).f 3; have fk4 := (unhide R2).f 4; have fk5 := (unhide R2).f 5; have fk6 := (unhide R2).f 6; have fk7 := (unhide R2).f 7; have fk8 := (unhide R2).f 8; have fk9 := (unhide R2).f 9; have fk10 := (unhide R2).f 10; have fk11 := (unhide R2).f 11; have fk12 := (unhide R2).f 12
      simp at k0 k1 k2 k3 k4 k5 k6 k7 k8 k9 k10 k11 k12
      have HX := hide (show Blk (((((((((((((w2.setCell ⟨w.heap.size, 0, none⟩ (.int .i64 0)).setCell ⟨w.heap.size, 1, none⟩ (.string (⟨#[]⟩ : ByteArray))).setCell ⟨w.heap.size, 2, none⟩ (.int .i64 0)).setCell ⟨w.heap.size, 3, none⟩ (.int .i64 0)).setCell ⟨w.heap.size, 4, none⟩ (.int .i64 0)).setCell ⟨w.heap.size, 5, none⟩ (.int .i64 0)).setCell ⟨w.heap.size, 6, none⟩ (.string (⟨#[]⟩ : ByteArray))).setCell ⟨w.heap.size, 7, none⟩ (.int .i64 0)).setCell ⟨w.heap.size, 8, none⟩ (.int .i64 0)).setCell ⟨w.heap.size, 9, none⟩ (.string (⟨#[]⟩ : ByteArray))).setCell ⟨w.heap.size, 10, none⟩ (.int .i64 0)).setCell ⟨w.heap.size, 11, none⟩ (.int .i64 0)).setCell ⟨w.heap.size, 12, none⟩ (.slice none 0 0)) (w.heap.size) #[.int .i64 0, .string (⟨#[]⟩ : ByteArray), .int .i64 0, .int .i64 0, .int .i64 0, .int .i64 0, .string (⟨#[]⟩ : ByteArray), .int .i64 0, .int .i64 0, .string (⟨#[]⟩ : ByteArray), .int .i64 0, .int .i64 0, .slice none 0 0] 28 from (Blk.sets (unhide R2) [.int .i64 0, .string (⟨#[]⟩ : ByteArray), .int .i64 0, .int .i64 0, .int .i64 0, .int .i64 0, .string (⟨#[]⟩ : ByteArray), .int .i64 0, .int .i64 0, .string (⟨#[]⟩ : ByteArray), .int .i64 0, .int .i64 0, .slice none 0 0] rfl))
      have HY := hide (show Below w.heap.size w (((((((((((((w2.setCell ⟨w.heap.size, 0, none⟩ (.int .i64 0)).setCell ⟨w.heap.size, 1, none⟩ (.string (⟨#[]⟩ : ByteArray))).setCell ⟨w.heap.size, 2, none⟩ (.int .i64 0)).setCell ⟨w.heap.size, 3, none⟩ (.int .i64 0)).setCell ⟨w.heap.size, 4, none⟩ (.int .i64 0)).setCell ⟨w.heap.size, 5, none⟩ (.int .i64 0)).setCell ⟨w.heap.size, 6, none⟩ (.string (⟨#[]⟩ : ByteArray))).setCell ⟨w.heap.size, 7, none⟩ (.int .i64 0)).setCell ⟨w.heap.size, 8, none⟩ (.int .i64 0)).setCell ⟨w.heap.size, 9, none⟩ (.string (⟨#[]⟩ : ByteArray))).setCell ⟨w.heap.size, 10, none⟩ (.int .i64 0)).setCell ⟨w.heap.size, 11, none⟩ (.int .i64 0)).setCell ⟨w.heap.size, 12, none⟩ (.slice none 0 0)) from (below_sets (unhide HB2) (g := w.heap.size) (by omega) 0 [.int .i64 0, .string (⟨#[]⟩ : ByteArray), .int .i64 0, .int .i64 0, .int .i64 0, .int .i64 0, .string (⟨#[]⟩ : ByteArray), .int .i64 0, .int .i64 0, .string (⟨#[]⟩ : ByteArray), .int .i64 0, .int .i64 0, .slice none 0 0]))
      go_wp2
      generalize (((((((((((((w2.setCell ⟨w.heap.size, 0, none⟩ (.int .i64 0)).setCell ⟨w.heap.size, 1, none⟩ (.string (⟨#[]⟩ : ByteArray))).setCell ⟨w.heap.size, 2, none⟩ (.int .i64 0)).setCell ⟨w.heap.size, 3, none⟩ (.int .i64 0)).setCell ⟨w.heap.size, 4, none⟩ (.int .i64 0)).setCell ⟨w.heap.size, 5, none⟩ (.int .i64 0)).setCell ⟨w.heap.size, 6, none⟩ (.string (⟨#[]⟩ : ByteArray))).setCell ⟨w.heap.size, 7, none⟩ (.int .i64 0)).setCell ⟨w.heap.size, 8, none⟩ (.int .i64 0)).setCell ⟨w.heap.size, 9, none⟩ (.string (⟨#[]⟩ : ByteArray))).setCell ⟨w.heap.size, 10, none⟩ (.int .i64 0)).setCell ⟨w.heap.size, 11, none⟩ (.int .i64 0)).setCell ⟨w.heap.size, 12, none⟩ (.slice none 0 0)) = W9 at HX HY ⊢
      have z0 := (unhide HX).at 0; have z1 := (unhide HX).at 1; have z2 := (unhide HX).at 2; have z3 := (unhide HX).at 3; have z4 := (unhide HX).at 4; have z5 := (unhide HX).at 5; have z6 := (unhide HX).at 6; have z7 := (unhide HX).at 7; have z8 := (unhide HX).at 8; have z9 := (unhide HX).at 9; have z10 := (unhide HX).at 10; have z11 := (unhide HX).at 11; have z12 := (unhide HX).at 12
      simp at z0 z1 z2 z3 z4 z5 z6 z7 z8 z9 z10 z11 z12
      refine bodyPost_ret (v := .tuple #[opv ⟨0, [], 0, ⟨0, 0, 0, [], 0⟩, 0, [], 0, 0, []⟩ none 0 0, .bool false]) (by simp [results, Tryd.results4, go_sem, z0, z1, z2, z3, z4, z5, z6, z7, z8, z9, z10, z11, z12]; try rfl) rfl ⟨by rw [unhide HE]; rfl, unhide HY⟩
    rw [decide_eq_false h2] at HF
    by_cases h3 : an < 0
    · rw [decide_eq_true h3] at HF
      have HE := hide (show fr = (zop, false) from by rw [← unhide HF]; rfl)
      have k0 := (unhide R2).at 0; have k1 := (unhide R2).at 1; have k2 := (unhide R2).at 2; have k3 := (unhide R2).at 3; have k4 := (unhide R2).at 4; have k5 := (unhide R2).at 5; have k6 := (unhide R2).at 6; have k7 := (unhide R2).at 7; have k8 := (unhide R2).at 8; have k9 := (unhide R2).at 9; have k10 := (unhide R2).at 10; have k11 := (unhide R2).at 11; have k12 := (unhide R2).at 12
      have fk0 := (unhide R2).f 0; have fk1 := (unhide R2).f 1; have fk2 := (unhide R2).f 2; have fk3 := (unhide R2).f 3; have fk4 := (unhide R2).f 4; have fk5 := (unhide R2).f 5; have fk6 := (unhide R2).f 6; have fk7 := (unhide R2).f 7; have fk8 := (unhide R2).f 8; have fk9 := (unhide R2).f 9; have fk10 := (unhide R2).f 10; have fk11 := (unhide R2).f 11; have fk12 := (unhide R2).f 12
      simp at k0 k1 k2 k3 k4 k5 k6 k7 k8 k9 k10 k11 k12
      have HX := hide (show Blk (((((((((((((w2.setCell ⟨w.heap.size, 0, none⟩ (.int .i64 0)).setCell ⟨w.heap.size, 1, none⟩ (.string (⟨#[]⟩ : ByteArray))).setCell ⟨w.heap.size, 2, none⟩ (.int .i64 0)).setCell ⟨w.heap.size, 3, none⟩ (.int .i64 0)).setCell ⟨w.heap.size, 4, none⟩ (.int .i64 0)).setCell ⟨w.heap.size, 5, none⟩ (.int .i64 0)).setCell ⟨w.heap.size, 6, none⟩ (.string (⟨#[]⟩ : ByteArray))).setCell ⟨w.heap.size, 7, none⟩ (.int .i64 0)).setCell ⟨w.heap.size, 8, none⟩ (.int .i64 0)).setCell ⟨w.heap.size, 9, none⟩ (.string (⟨#[]⟩ : ByteArray))).setCell ⟨w.heap.size, 10, none⟩ (.int .i64 0)).setCell ⟨w.heap.size, 11, none⟩ (.int .i64 0)).setCell ⟨w.heap.size, 12, none⟩ (.slice none 0 0)) (w.heap.size) #[.int .i64 0, .string (⟨#[]⟩ : ByteArray), .int .i64 0, .int .i64 0, .int .i64 0, .int .i64 0, .string (⟨#[]⟩ : ByteArray), .int .i64 0, .int .i64 0, .string (⟨#[]⟩ : ByteArray), .int .i64 0, .int .i64 0, .slice none 0 0] 28 from (Blk.sets (unhide R2) [.int .i64 0, .string (⟨#[]⟩ : ByteArray), .int .i64 0, .int .i64 0, .int .i64 0, .int .i64 0, .string (⟨#[]⟩ : ByteArray), .int .i64 0, .int .i64 0, .string (⟨#[]⟩ : ByteArray), .int .i64 0, .int .i64 0, .slice none 0 0] rfl))
      have HY := hide (show Below w.heap.size w (((((((((((((w2.setCell ⟨w.heap.size, 0, none⟩ (.int .i64 0)).setCell ⟨w.heap.size, 1, none⟩ (.string (⟨#[]⟩ : ByteArray))).setCell ⟨w.heap.size, 2, none⟩ (.int .i64 0)).setCell ⟨w.heap.size, 3, none⟩ (.int .i64 0)).setCell ⟨w.heap.size, 4, none⟩ (.int .i64 0)).setCell ⟨w.heap.size, 5, none⟩ (.int .i64 0)).setCell ⟨w.heap.size, 6, none⟩ (.string (⟨#[]⟩ : ByteArray))).setCell ⟨w.heap.size, 7, none⟩ (.int .i64 0)).setCell ⟨w.heap.size, 8, none⟩ (.int .i64 0)).setCell ⟨w.heap.size, 9, none⟩ (.string (⟨#[]⟩ : ByteArray))).setCell ⟨w.heap.size, 10, none⟩ (.int .i64 0)).setCell ⟨w.heap.size, 11, none⟩ (.int .i64 0)).setCell ⟨w.heap.size, 12, none⟩ (.slice none 0 0)) from (below_sets (unhide HB2) (g := w.heap.size) (by omega) 0 [.int .i64 0, .string (⟨#[]⟩ : ByteArray), .int .i64 0, .int .i64 0, .int .i64 0, .int .i64 0, .string (⟨#[]⟩ : ByteArray), .int .i64 0, .int .i64 0, .string (⟨#[]⟩ : ByteArray), .int .i64 0, .int .i64 0, .slice none 0 0]))
      go_wp2
      generalize (((((((((((((w2.setCell ⟨w.heap.size, 0, none⟩ (.int .i64 0)).setCell ⟨w.heap.size, 1, none⟩ (.string (⟨#[]⟩ : ByteArray))).setCell ⟨w.heap.size, 2, none⟩ (.int .i64 0)).setCell ⟨w.heap.size, 3, none⟩ (.int .i64 0)).setCell ⟨w.heap.size, 4, none⟩ (.int .i64 0)).setCell ⟨w.heap.size, 5, none⟩ (.int .i64 0)).setCell ⟨w.heap.size, 6, none⟩ (.string (⟨#[]⟩ : ByteArray))).setCell ⟨w.heap.size, 7, none⟩ (.int .i64 0)).setCell ⟨w.heap.size, 8, none⟩ (.int .i64 0)).setCell ⟨w.heap.size, 9, none⟩ (.string (⟨#[]⟩ : ByteArray))).setCell ⟨w.heap.size, 10, none⟩ (.int .i64 0)).setCell ⟨w.heap.size, 11, none⟩ (.int .i64 0)).setCell ⟨w.heap.size, 12, none⟩ (.slice none 0 0)) = W9 at HX HY ⊢
      have z0 := (unhide HX).at 0; have z1 := (unhide HX).at 1; have z2 := (unhide HX).at 2; have z3 := (unhide HX).at 3; have z4 := (unhide HX).at 4; have z5 := (unhide HX).at 5; have z6 := (unhide HX).at 6; have z7 := (unhide HX).at 7; have z8 := (unhide HX).at 8; have z9 := (unhide HX).at 9; have z10 := (unhide HX).at 10; have z11 := (unhide HX).at 11; have z12 := (unhide HX).at 12
      simp at z0 z1 z2 z3 z4 z5 z6 z7 z8 z9 z10 z11 z12
      refine bodyPost_ret (v := .tuple #[opv ⟨0, [], 0, ⟨0, 0, 0, [], 0⟩, 0, [], 0, 0, []⟩ none 0 0, .bool false]) (by simp [results, Tryd.results4, go_sem, z0, z1, z2, z3, z4, z5, z6, z7, z8, z9, z10, z11, z12]; try rfl) rfl ⟨by rw [unhide HE]; rfl, unhide HY⟩
    rw [decide_eq_false h3] at HF
    by_cases h4 : l = []
    · rw [decide_eq_true h4] at HF sl
      have HL := hide h4
      clear h4
      have HE := hide (show fr = (zop, false) from by rw [← unhide HF]; rfl)
      have k0 := (unhide R2).at 0; have k1 := (unhide R2).at 1; have k2 := (unhide R2).at 2; have k3 := (unhide R2).at 3; have k4 := (unhide R2).at 4; have k5 := (unhide R2).at 5; have k6 := (unhide R2).at 6; have k7 := (unhide R2).at 7; have k8 := (unhide R2).at 8; have k9 := (unhide R2).at 9; have k10 := (unhide R2).at 10; have k11 := (unhide R2).at 11; have k12 := (unhide R2).at 12
      have fk0 := (unhide R2).f 0; have fk1 := (unhide R2).f 1; have fk2 := (unhide R2).f 2; have fk3 := (unhide R2).f 3; have fk4 := (unhide R2).f 4; have fk5 := (unhide R2).f 5; have fk6 := (unhide R2).f 6; have fk7 := (unhide R2).f 7; have fk8 := (unhide R2).f 8; have fk9 := (unhide R2).f 9; have fk10 := (unhide R2).f 10; have fk11 := (unhide R2).f 11; have fk12 := (unhide R2).f 12
      simp at k0 k1 k2 k3 k4 k5 k6 k7 k8 k9 k10 k11 k12
      have HX := hide (show Blk (((((((((((((w2.setCell ⟨w.heap.size, 0, none⟩ (.int .i64 0)).setCell ⟨w.heap.size, 1, none⟩ (.string (⟨#[]⟩ : ByteArray))).setCell ⟨w.heap.size, 2, none⟩ (.int .i64 0)).setCell ⟨w.heap.size, 3, none⟩ (.int .i64 0)).setCell ⟨w.heap.size, 4, none⟩ (.int .i64 0)).setCell ⟨w.heap.size, 5, none⟩ (.int .i64 0)).setCell ⟨w.heap.size, 6, none⟩ (.string (⟨#[]⟩ : ByteArray))).setCell ⟨w.heap.size, 7, none⟩ (.int .i64 0)).setCell ⟨w.heap.size, 8, none⟩ (.int .i64 0)).setCell ⟨w.heap.size, 9, none⟩ (.string (⟨#[]⟩ : ByteArray))).setCell ⟨w.heap.size, 10, none⟩ (.int .i64 0)).setCell ⟨w.heap.size, 11, none⟩ (.int .i64 0)).setCell ⟨w.heap.size, 12, none⟩ (.slice none 0 0)) (w.heap.size) #[.int .i64 0, .string (⟨#[]⟩ : ByteArray), .int .i64 0, .int .i64 0, .int .i64 0, .int .i64 0, .string (⟨#[]⟩ : ByteArray), .int .i64 0, .int .i64 0, .string (⟨#[]⟩ : ByteArray), .int .i64 0, .int .i64 0, .slice none 0 0] 28 from (Blk.sets (unhide R2) [.int .i64 0, .string (⟨#[]⟩ : ByteArray), .int .i64 0, .int .i64 0, .int .i64 0, .int .i64 0, .string (⟨#[]⟩ : ByteArray), .int .i64 0, .int .i64 0, .string (⟨#[]⟩ : ByteArray), .int .i64 0, .int .i64 0, .slice none 0 0] rfl))
      have HY := hide (show Below w.heap.size w (((((((((((((w2.setCell ⟨w.heap.size, 0, none⟩ (.int .i64 0)).setCell ⟨w.heap.size, 1, none⟩ (.string (⟨#[]⟩ : ByteArray))).setCell ⟨w.heap.size, 2, none⟩ (.int .i64 0)).setCell ⟨w.heap.size, 3, none⟩ (.int .i64 0)).setCell ⟨w.heap.size, 4, none⟩ (.int .i64 0)).setCell ⟨w.heap.size, 5, none⟩ (.int .i64 0)).setCell ⟨w.heap.size, 6, none⟩ (.string (⟨#[]⟩ : ByteArray))).setCell ⟨w.heap.size, 7, none⟩ (.int .i64 0)).setCell ⟨w.heap.size, 8, none⟩ (.int .i64 0)).setCell ⟨w.heap.size, 9, none⟩ (.string (⟨#[]⟩ : ByteArray))).setCell ⟨w.heap.size, 10, none⟩ (.int .i64 0)).setCell ⟨w.heap.size, 11, none⟩ (.int .i64 0)).setCell ⟨w.heap.size, 12, none⟩ (.slice none 0 0)) from (below_sets (unhide HB2) (g := w.heap.size) (by omega) 0 [.int .i64 0, .string (⟨#[]⟩ : ByteArray), .int .i64 0, .int .i64 0, .int .i64 0, .int .i64 0, .string (⟨#[]⟩ : ByteArray), .int .i64 0, .int .i64 0, .string (⟨#[]⟩ : ByteArray), .int .i64 0, .int .i64 0, .slice none 0 0]))
      go_wp2
      generalize (((((((((((((w2.setCell ⟨w.heap.size, 0, none⟩ (.int .i64 0)).setCell ⟨w.heap.size, 1, none⟩ (.string (⟨#[]⟩ : ByteArray))).setCell ⟨w.heap.size, 2, none⟩ (.int .i64 0)).setCell ⟨w.heap.size, 3, none⟩ (.int .i64 0)).setCell ⟨w.heap.size, 4, none⟩ (.int .i64 0)).setCell ⟨w.heap.size, 5, none⟩ (.int .i64 0)).setCell ⟨w.heap.size, 6, none⟩ (.string (⟨#[]⟩ : ByteArray))).setCell ⟨w.heap.size, 7, none⟩ (.int .i64 0)).setCell ⟨w.heap.size, 8, none⟩ (.int .i64 0)).setCell ⟨w.heap.size, 9, none⟩ (.string (⟨#[]⟩ : ByteArray))).setCell ⟨w.heap.size, 10, none⟩ (.int .i64 0)).setCell ⟨w.heap.size, 11, none⟩ (.int .i64 0)).setCell ⟨w.heap.size, 12, none⟩ (.slice none 0 0)) = W9 at HX HY ⊢
      have z0 := (unhide HX).at 0; have z1 := (unhide HX).at 1; have z2 := (unhide HX).at 2; have z3 := (unhide HX).at 3; have z4 := (unhide HX).at 4; have z5 := (unhide HX).at 5; have z6 := (unhide HX).at 6; have z7 := (unhide HX).at 7; have z8 := (unhide HX).at 8; have z9 := (unhide HX).at 9; have z10 := (unhide HX).at 10; have z11 := (unhide HX).at 11; have z12 := (unhide HX).at 12
      simp at z0 z1 z2 z3 z4 z5 z6 z7 z8 z9 z10 z11 z12
      refine bodyPost_ret (v := .tuple #[opv ⟨0, [], 0, ⟨0, 0, 0, [], 0⟩, 0, [], 0, 0, []⟩ none 0 0, .bool false]) (by simp [results, Tryd.results4, go_sem, z0, z1, z2, z3, z4, z5, z6, z7, z8, z9, z10, z11, z12]; try rfl) rfl ⟨by rw [unhide HE]; rfl, unhide HY⟩
    rw [decide_eq_false h4] at HF sl
    clear h4
    have HOC := hide (unhide O2)
    have p0 := (unhide O2).at 0; have p1 := (unhide O2).at 1; have p3 := (unhide O2).at 3; have p4 := (unhide O2).at 4; have p6 := (unhide O2).at 6; have p7 := (unhide O2).at 7; have p9 := (unhide O2).at 9; have p10 := (unhide O2).at 10; have p11 := (unhide O2).at 11; have p12 := (unhide O2).at 12
    simp at p0 p1 p3 p4 p6 p7 p9 p10 p11 p12
    go_wp2_with fail
    refine (unhide CT _).mono ?_
    rintro e w3 ⟨rfl, hb⟩
    have O3 := hide ((unhide O2).below hb)
    have HB3 := hide (below_on (unhide HB2) hb)
    have R3 := hide ((unhide R2).below hb)
    clear hb O2 HB2 R2 CT HOC p0 p1 p3 p4 p6 p7 p9 p10 p11 p12 o2 o5 o8
    by_cases h5 : tl = l
    · rw [decide_eq_true h5] at HF s2
      clear h5
      have HE := hide (show fr = (⟨kind, queue, app, ⟨am, ac, an, ad, ai⟩, cont, node, mem, cpu, conts⟩, true) from by rw [← unhide HF]; rfl)
      have o0 := (unhide O3).at 0; have o1 := (unhide O3).at 1; have o2 := (unhide O3).at 2; have o3 := (unhide O3).at 3; have o4 := (unhide O3).at 4; have o5 := (unhide O3).at 5; have o6 := (unhide O3).at 6; have o7 := (unhide O3).at 7; have o8 := (unhide O3).at 8; have o9 := (unhide O3).at 9; have o10 := (unhide O3).at 10; have o11 := (unhide O3).at 11; have o12 := (unhide O3).at 12
      have fo0 := (unhide O3).f 0; have fo1 := (unhide O3).f 1; have fo2 := (unhide O3).f 2; have fo3 := (unhide O3).f 3; have fo4 := (unhide O3).f 4; have fo5 := (unhide O3).f 5; have fo6 := (unhide O3).f 6; have fo7 := (unhide O3).f 7; have fo8 := (unhide O3).f 8; have fo9 := (unhide O3).f 9; have fo10 := (unhide O3).f 10; have fo11 := (unhide O3).f 11; have fo12 := (unhide O3).f 12
      simp at o0 o1 o2 o3 o4 o5 o6 o7 o8 o9 o10 o11 o12
      have k0 := (unhide R3).at 0; have k1 := (unhide R3).at 1; have k2 := (unhide R3).at 2; have k3 := (unhide R3).at 3; have k4 := (unhide R3).at 4; have k5 := (unhide R3).at 5; have k6 := (unhide R3).at 6; have k7 := (unhide R3).at 7; have k8 := (unhide R3).at 8; have k9 := (unhide R3).at 9; have k10 := (unhide R3).at 10; have k11 := (unhide R3).at 11; have k12 := (unhide R3).at 12
      have fk0 := (unhide R3).f 0; have fk1 := (unhide R3).f 1; have fk2 := (unhide R3).f 2; have fk3 := (unhide R3).f 3; have fk4 := (unhide R3).f 4; have fk5 := (unhide R3).f 5; have fk6 := (unhide R3).f 6; have fk7 := (unhide R3).f 7; have fk8 := (unhide R3).f 8; have fk9 := (unhide R3).f 9; have fk10 := (unhide R3).f 10; have fk11 := (unhide R3).f 11; have fk12 := (unhide R3).f 12
      simp at k0 k1 k2 k3 k4 k5 k6 k7 k8 k9 k10 k11 k12
      have HX := hide (show Blk (((((((((((((w3.setCell ⟨w.heap.size, 0, none⟩ (.int .i64 kind)).setCell ⟨w.heap.size, 1, none⟩ (.string (bs queue))).setCell ⟨w.heap.size, 2, none⟩ (.int .i64 app)).setCell ⟨w.heap.size, 3, none⟩ (.int .i64 am)).setCell ⟨w.heap.size, 4, none⟩ (.int .i64 ac)).setCell ⟨w.heap.size, 5, none⟩ (.int .i64 an)).setCell ⟨w.heap.size, 6, none⟩ (.string (bs ad))).setCell ⟨w.heap.size, 7, none⟩ (.int .i64 ai)).setCell ⟨w.heap.size, 8, none⟩ (.int .i64 cont)).setCell ⟨w.heap.size, 9, none⟩ (.string (bs node))).setCell ⟨w.heap.size, 10, none⟩ (.int .i64 mem)).setCell ⟨w.heap.size, 11, none⟩ (.int .i64 cpu)).setCell ⟨w.heap.size, 12, none⟩ (.slice none 0 0)) (w.heap.size) #[.int .i64 kind, .string (bs queue), .int .i64 app, .int .i64 am, .int .i64 ac, .int .i64 an, .string (bs ad), .int .i64 ai, .int .i64 cont, .string (bs node), .int .i64 mem, .int .i64 cpu, .slice none 0 0] 28 from (Blk.sets (unhide R3) [.int .i64 kind, .string (bs queue), .int .i64 app, .int .i64 am, .int .i64 ac, .int .i64 an, .string (bs ad), .int .i64 ai, .int .i64 cont, .string (bs node), .int .i64 mem, .int .i64 cpu, .slice none 0 0] rfl))
      have HY := hide (show Below w.heap.size w (((((((((((((w3.setCell ⟨w.heap.size, 0, none⟩ (.int .i64 kind)).setCell ⟨w.heap.size, 1, none⟩ (.string (bs queue))).setCell ⟨w.heap.size, 2, none⟩ (.int .i64 app)).setCell ⟨w.heap.size, 3, none⟩ (.int .i64 am)).setCell ⟨w.heap.size, 4, none⟩ (.int .i64 ac)).setCell ⟨w.heap.size, 5, none⟩ (.int .i64 an)).setCell ⟨w.heap.size, 6, none⟩ (.string (bs ad))).setCell ⟨w.heap.size, 7, none⟩ (.int .i64 ai)).setCell ⟨w.heap.size, 8, none⟩ (.int .i64 cont)).setCell ⟨w.heap.size, 9, none⟩ (.string (bs node))).setCell ⟨w.heap.size, 10, none⟩ (.int .i64 mem)).setCell ⟨w.heap.size, 11, none⟩ (.int .i64 cpu)).setCell ⟨w.heap.size, 12, none⟩ (.slice none 0 0)) from (below_sets (unhide HB3) (g := w.heap.size) (by omega) 0 [.int .i64 kind, .string (bs queue), .int .i64 app, .int .i64 am, .int .i64 ac, .int .i64 an, .string (bs ad), .int .i64 ai, .int .i64 cont, .string (bs node), .int .i64 mem, .int .i64 cpu, .slice none 0 0]))
      go_wp2
      generalize (((((((((((((w3.setCell ⟨w.heap.size, 0, none⟩ (.int .i64 kind)).setCell ⟨w.heap.size, 1, none⟩ (.string (bs queue))).setCell ⟨w.heap.size, 2, none⟩ (.int .i64 app)).setCell ⟨w.heap.size, 3, none⟩ (.int .i64 am)).setCell ⟨w.heap.size, 4, none⟩ (.int .i64 ac)).setCell ⟨w.heap.size, 5, none⟩ (.int .i64 an)).setCell ⟨w.heap.size, 6, none⟩ (.string (bs ad))).setCell ⟨w.heap.size, 7, none⟩ (.int .i64 ai)).setCell ⟨w.heap.size, 8, none⟩ (.int .i64 cont)).setCell ⟨w.heap.size, 9, none⟩ (.string (bs node))).setCell ⟨w.heap.size, 10, none⟩ (.int .i64 mem)).setCell ⟨w.heap.size, 11, none⟩ (.int .i64 cpu)).setCell ⟨w.heap.size, 12, none⟩ (.slice none 0 0)) = W9 at HX HY ⊢
      have z0 := (unhide HX).at 0; have z1 := (unhide HX).at 1; have z2 := (unhide HX).at 2; have z3 := (unhide HX).at 3; have z4 := (unhide HX).at 4; have z5 := (unhide HX).at 5; have z6 := (unhide HX).at 6; have z7 := (unhide HX).at 7; have z8 := (unhide HX).at 8; have z9 := (unhide HX).at 9; have z10 := (unhide HX).at 10; have z11 := (unhide HX).at 11; have z12 := (unhide HX).at 12
      simp at z0 z1 z2 z3 z4 z5 z6 z7 z8 z9 z10 z11 z12
      refine bodyPost_ret (v := .tuple #[opv ⟨kind, queue, app, ⟨am, ac, an, ad, ai⟩, cont, node, mem, cpu, conts⟩ none 0 0, .bool true]) (by simp [results, Tryd.results4, go_sem, z0, z1, z2, z3, z4, z5, z6, z7, z8, z9, z10, z11, z12]; try rfl) rfl ⟨by rw [unhide HE], unhide HY⟩
    · rw [decide_eq_false h5] at HF s2
      clear h5
      have HE := hide (show fr = (zop, false) from by rw [← unhide HF]; rfl)
      have k0 := (unhide R3).at 0; have k1 := (unhide R3).at 1; have k2 := (unhide R3).at 2; have k3 := (unhide R3).at 3; have k4 := (unhide R3).at 4; have k5 := (unhide R3).at 5; have k6 := (unhide R3).at 6; have k7 := (unhide R3).at 7; have k8 := (unhide R3).at 8; have k9 := (unhide R3).at 9; have k10 := (unhide R3).at 10; have k11 := (unhide R3).at 11; have k12 := (unhide R3).at 12
      have fk0 := (unhide R3).f 0; have fk1 := (unhide R3).f 1; have fk2 := (unhide R3).f 2; have fk3 := (unhide R3).f 3; have fk4 := (unhide R3).f 4; have fk5 := (unhide R3).f 5; have fk6 := (unhide R3).f 6; have fk7 := (unhide R3).f 7; have fk8 := (unhide R3).f 8; have fk9 := (unhide R3).f 9; have fk10 := (unhide R3).f 10; have fk11 := (unhide R3).f 11; have fk12 := (unhide R3).f 12
      simp at k0 k1 k2 k3 k4 k5 k6 k7 k8 k9 k10 k11 k12
      have HX := hide (show Blk (((((((((((((w3.setCell ⟨w.heap.size, 0, none⟩ (.int .i64 0)).setCell ⟨w.heap.size, 1, none⟩ (.string (⟨#[]⟩ : ByteArray))).setCell ⟨w.heap.size, 2, none⟩ (.int .i64 0)).setCell ⟨w.heap.size, 3, none⟩ (.int .i64 0)).setCell ⟨w.heap.size, 4, none⟩ (.int .i64 0)).setCell ⟨w.heap.size, 5, none⟩ (.int .i64 0)).setCell ⟨w.heap.size, 6, none⟩ (.string (⟨#[]⟩ : ByteArray))).setCell ⟨w.heap.size, 7, none⟩ (.int .i64 0)).setCell ⟨w.heap.size, 8, none⟩ (.int .i64 0)).setCell ⟨w.heap.size, 9, none⟩ (.string (⟨#[]⟩ : ByteArray))).setCell ⟨w.heap.size, 10, none⟩ (.int .i64 0)).setCell ⟨w.heap.size, 11, none⟩ (.int .i64 0)).setCell ⟨w.heap.size, 12, none⟩ (.slice none 0 0)) (w.heap.size) #[.int .i64 0, .string (⟨#[]⟩ : ByteArray), .int .i64 0, .int .i64 0, .int .i64 0, .int .i64 0, .string (⟨#[]⟩ : ByteArray), .int .i64 0, .int .i64 0, .string (⟨#[]⟩ : ByteArray), .int .i64 0, .int .i64 0, .slice none 0 0] 28 from (Blk.sets (unhide R3) [.int .i64 0, .string (⟨#[]⟩ : ByteArray), .int .i64 0, .int .i64 0, .int .i64 0, .int .i64 0, .string (⟨#[]⟩ : ByteArray), .int .i64 0, .int .i64 0, .string (⟨#[]⟩ : ByteArray), .int .i64 0, .int .i64 0, .slice none 0 0] rfl))
      have HY := hide (show Below w.heap.size w (((((((((((((w3.setCell ⟨w.heap.size, 0, none⟩ (.int .i64 0)).setCell ⟨w.heap.size, 1, none⟩ (.string (⟨#[]⟩ : ByteArray))).setCell ⟨w.heap.size, 2, none⟩ (.int .i64 0)).setCell ⟨w.heap.size, 3, none⟩ (.int .i64 0)).setCell ⟨w.heap.size, 4, none⟩ (.int .i64 0)).setCell ⟨w.heap.size, 5, none⟩ (.int .i64 0)).setCell ⟨w.heap.size, 6, none⟩ (.string (⟨#[]⟩ : ByteArray))).setCell ⟨w.heap.size, 7, none⟩ (.int .i64 0)).setCell ⟨w.heap.size, 8, none⟩ (.int .i64 0)).setCell ⟨w.heap.size, 9, none⟩ (.string (⟨#[]⟩ : ByteArray))).setCell ⟨w.heap.size, 10, none⟩ (.int .i64 0)).setCell ⟨w.heap.size, 11, none⟩ (.int .i64 0)).setCell ⟨w.heap.size, 12, none⟩ (.slice none 0 0)) from (below_sets (unhide HB3) (g := w.heap.size) (by omega) 0 [.int .i64 0, .string (⟨#[]⟩ : ByteArray), .int .i64 0, .int .i64 0, .int .i64 0, .int .i64 0, .string (⟨#[]⟩ : ByteArray), .int .i64 0, .int .i64 0, .string (⟨#[]⟩ : ByteArray), .int .i64 0, .int .i64 0, .slice none 0 0]))
      go_wp2
      generalize (((((((((((((w3.setCell ⟨w.heap.size, 0, none⟩ (.int .i64 0)).setCell ⟨w.heap.size, 1, none⟩ (.string (⟨#[]⟩ : ByteArray))).setCell ⟨w.heap.size, 2, none⟩ (.int .i64 0)).setCell ⟨w.heap.size, 3, none⟩ (.int .i64 0)).setCell ⟨w.heap.size, 4, none⟩ (.int .i64 0)).setCell ⟨w.heap.size, 5, none⟩ (.int .i64 0)).setCell ⟨w.heap.size, 6, none⟩ (.string (⟨#[]⟩ : ByteArray))).setCell ⟨w.heap.size, 7, none⟩ (.int .i64 0)).setCell ⟨w.heap.size, 8, none⟩ (.int .i64 0)).setCell ⟨w.heap.size, 9, none⟩ (.string (⟨#[]⟩ : ByteArray))).setCell ⟨w.heap.size, 10, none⟩ (.int .i64 0)).setCell ⟨w.heap.size, 11, none⟩ (.int .i64 0)).setCell ⟨w.heap.size, 12, none⟩ (.slice none 0 0)) = W9 at HX HY ⊢
      have z0 := (unhide HX).at 0; have z1 := (unhide HX).at 1; have z2 := (unhide HX).at 2; have z3 := (unhide HX).at 3; have z4 := (unhide HX).at 4; have z5 := (unhide HX).at 5; have z6 := (unhide HX).at 6; have z7 := (unhide HX).at 7; have z8 := (unhide HX).at 8; have z9 := (unhide HX).at 9; have z10 := (unhide HX).at 10; have z11 := (unhide HX).at 11; have z12 := (unhide HX).at 12
      simp at z0 z1 z2 z3 z4 z5 z6 z7 z8 z9 z10 z11 z12
      refine bodyPost_ret (v := .tuple #[opv ⟨0, [], 0, ⟨0, 0, 0, [], 0⟩, 0, [], 0, 0, []⟩ none 0 0, .bool false]) (by simp [results, Tryd.results4, go_sem, z0, z1, z2, z3, z4, z5, z6, z7, z8, z9, z10, z11, z12]; try rfl) rfl ⟨by rw [unhide HE]; rfl, unhide HY⟩
end Go.Proofs.YtfhnjghjibklcaaDoor
