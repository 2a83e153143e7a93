/-
  The law FnSums answers true at every slice of bytes, and leaves it as it was: a text with one byte changed has another sum, a number comes back from its decimal text; the library's variables stand as its text lays them (the card ties that); no other condition.
-/
import Derived.Test.YthnkbdjombiodaaDoorCards
import Derived.Test.YthnkbdjombiodaaDoorTie
import Derived.Test.YthnkbdjombiodaaDoorSumI
import Derived.Test.YthnkbdjombiodaaDoorSumsM
import Derived.Test.YthnkbdjombiodaaDoorSumsB
import Derived.Test.YthnkbdjombiodaaDoorSumsW
import Derived.Test.YthnkbdjombiodaaDoorDrawS
import Derived.Test.YthnkbdjombiodaaDoorDecI
import Derived.Test.YthnkbdjombiodaaDoorReadDec
import Derived.Test.YthnkbdjombiodaaDoorName
import Derived.Test.YthnkbdjombiodaaDoorWordsI
import Derived.Test.YthnkbdjombiodaaDoorCode
import Derived.WalkKit
import Derived.Deep.CutRange
import Derived.Deep.RegionHeld3
import Derived.Deep.RegionWith
import Derived.Deep.QuietTactic
import Derived.ProofKit
import Derived.OpenShut
import Derived.ShutString
import Derived.ChangeOld
import Derived.Below
import Derived.Deep.DeepHandedRow
import Derived.Lib.LaidTab
import Derived.Lay
import Derived.LaidSub
import Derived.MakeChecks
namespace Go.Proofs.YthnkbdjombiodaaDoor.fnSums
open Go.ChangeShapes Go.WideShapes Go.ChangeAt Go.RowKit
open Go.ChangeMaps (open_string shut_string)
set_option linter.unusedVariables false

theorem own : ownKnob Tryd.prog.godebug = none := by kernel_rfl
theorem laidOut : laidOutB Tryd.prog = true := by kernel_rfl

theorem gTab : Tryd.prog.globalNamed "internal/strconv.uint64pow10" = some 1 := by kernel_rfl
theorem gTabType : (Tryd.prog.globals[1]?).map (·.type) = some 158 := by kernel_rfl
theorem cellsT : Tryd.prog.cellsOf 158 = 20 := by kernel_rfl
theorem cellsE : Tryd.prog.cellsOf 144 = 1 := by kernel_rfl
theorem table {W : World} (h : laidMetH Tryd.prog Rows.fnSumsRow.laid W) : Lib.TabIs Tryd.prog W "internal/strconv.uint64pow10" .u64 Lib.pow10Tab := by
  have h1 : laidMet Tryd.prog Rows.fnSumsRow.laid W := by rw [MakeChecks.laidMetH_plain _ _ _ (by kernel_rfl)] at h; exact h
  have h2 := h1.filter (fun x => x.1 == "internal/strconv.uint64pow10")
  have e : (Rows.fnSumsRow.laid.filter fun x => x.1 == "internal/strconv.uint64pow10") = [("internal/strconv.uint64pow10", Lib.tabData .u64 Lib.pow10Tab)] := by kernel_rfl
  rw [e] at h2
  exact Lib.tabIs_of_head (rest := []) gTab gTabType Tryd.underlying158 Tryd.underlying144 cellsE cellsT h2
theorem tab_on {w w' : World} (h : Lib.TabIs Tryd.prog w "internal/strconv.uint64pow10" .u64 Lib.pow10Tab) (hb : Below w.heap.size w w') : Lib.TabIs Tryd.prog w' "internal/strconv.uint64pow10" .u64 Lib.pow10Tab :=
  var?_below hb gTab (by
    have := h.cell gTab 0 (by rw [Lib.pow10Tab_length]; decide)
    exact cell_lt this) h
theorem readDec_back (s : ByteArray) (h : 0 ≤ readDec s.data.toList) : bs (Lib.itoa (readDec s.data.toList)) = s ∧ readDec s.data.toList ≤ 1000000000 := by
  unfold readDec at *
  by_cases ho : readOk s.data.toList = true
  · rw [if_pos ho] at *
    simp only [readOk, Bool.and_eq_true, decide_eq_true_eq, Bool.not_eq_true'] at ho
    obtain ⟨⟨⟨h1, h2⟩, h3⟩, h4⟩ := ho
    have h1' : 1 ≤ s.data.toList.length := by simp only [inB, decide_eq_true_eq] at h1; omega
    rw [Lib.itoa_nonneg, (dec_val_iff h1' h2).2 h3]
    exact ⟨WideShapes.bytes_inj (by simp [bs]), by omega⟩
  · rw [if_neg ho] at h; omega
theorem readDec_ge (l : List UInt8) : -1 ≤ readDec l := by
  unfold readDec; split <;> omega
theorem readDec_le (l : List UInt8) : readDec l ≤ 1000000000 := by
  unfold readDec
  split
  · rename_i h
    simp only [readOk, Bool.and_eq_true, decide_eq_true_eq] at h
    omega
  · omega

set_option maxRecDepth 100000 in
set_option maxHeartbeats 4000000 in
theorem walk (a0 : Option Addr) (len0 cap0 : Nat) (z0 : List Int) (w : World) (w0 : IsRow w a0 len0 cap0 z0) (hL : laidMetH Tryd.prog Rows.fnSumsRow.laid w) (hsh : w.ShapedOpen Tryd.prog) :
    Calls Tryd.prog 4 #[.slice a0 len0 cap0] w fun e w' => e = .returned (.bool true) ∧ Below w.heap.size w w' := by
  have hl := w0.len
  have HM : Hid (∃ m, w.cell? ⟨0, 0, none⟩ = some (.int .i64 m)) := maxLen_cell w hsh
  have HT : Hid (Lib.TabIs Tryd.prog w "internal/strconv.uint64pow10" .u64 Lib.pow10Tab) := table hL
  clear hL hsh
  by_cases hbig : len0 ≤ 1048576
  · have HK := hide (code_of w0 hbig)
    have hbb : bigB len0 = false := by simp [bigB]; omega
    clear w0
    go_enter Tryd.func4, Tryd.ntmps4
    go_wp2_with fail
    refine (big_any _ _ _ _ hl).mono ?_
    rintro e wb ⟨rfl, rfl⟩
    go_wp2_with fail
    refine (drawCheckSum_any _ _ _ _ _ (unhide HK)).mono ?_
    rintro e w1 ⟨t, rfl, hts, hb1⟩
    have HB1 := hide hb1
    clear hb1
    go_wp2_with fail
    refine (drawReadDec_any _ _ _ _ _ ((unhide HK).below (unhide HB1) (Nat.le_refl _))).mono ?_
    rintro e w2 ⟨s, rfl, hss, hb2⟩
    have HB2 := hide (Below.trans (unhide HB1) (hb2.mono (unhide HB1).size))
    clear hb2
    go_wp2_with fail
    refine (implReadDec_any _ _ (by omega)).mono ?_
    rintro e w3 ⟨rfl, rfl⟩
    go_wp2_with fail
    refine (drawDecText_any _ _ _ _ _ ((unhide HK).below (unhide HB2) (Nat.le_refl _))).mono ?_
    rintro e w4 ⟨x, rfl, hx0, hx1, hb4⟩
    have HB4 := hide (Below.trans (unhide HB2) (hb4.mono (unhide HB2).size))
    clear hb4
    go_wp2_with fail
    refine (drawWords_any _ _ _ _ _ ((unhide HK).below (unhide HB4) (Nat.le_refl _))).mono ?_
    rintro e w5 ⟨v, rfl, hvs, hb5⟩
    have HB5 := hide (Below.trans (unhide HB4) (hb5.mono (unhide HB4).size))
    clear hb5
    go_wp2_with fail
    refine (drawNameOk_any _ _ _ _ _ ((unhide HK).below (unhide HB5) (Nat.le_refl _))).mono ?_
    rintro e w6 ⟨k, rfl, hks, hb6⟩
    have HB6 := hide (Below.trans (unhide HB5) (hb6.mono (unhide HB5).size))
    clear hb6 HB1 HB2 HB4 HB5
    go_wp2_with fail
    refine (implCheckSum_any _ _ (by omega)).mono ?_
    rintro e w7 ⟨rfl, hb7⟩
    have HB7 := hide (Below.trans (unhide HB6) (hb7.mono (unhide HB6).size))
    clear hb7
    go_wp2_with fail
    refine (specCheckSum_any _ _ (by omega)).mono ?_
    rintro e w8 ⟨rfl, rfl⟩
    go_wp2_with fail
    refine (specReadDec_any _ _ (by omega)).mono ?_
    rintro e w9 ⟨rfl, rfl⟩
    go_wp2_with fail
    refine (implDecText_any _ _ hx0 hx1 (tab_on (unhide HT) (unhide HB7))).mono ?_
    rintro e w10 ⟨rfl, hb10⟩
    have HB10 := hide (Below.trans (unhide HB7) (hb10.mono (unhide HB7).size))
    clear hb10 HB6 HB7
    go_wp2_with fail
    refine (specDecText_any _ _ hx0 hx1).mono ?_
    rintro e w11 ⟨rfl, rfl⟩
    go_wp2_with fail
    refine (implWords_any _ _ (by omega) (cell_on (unhide HM) (unhide HB10))).mono ?_
    rintro e w12 ⟨g1, c1, rfl, hs1, hg1, hb12⟩
    have HB12 := hide (Below.trans (unhide HB10) (hb12.mono (unhide HB10).size))
    have HS1 := hide hs1
    clear hs1 hb12 hg1
    go_wp2_with fail
    refine (specWords_any _ _ (by omega)).mono ?_
    rintro e w13 ⟨g2, c2, rfl, hs2, hg2, hb13⟩
    have HB13 := hide (Below.trans (unhide HB12) (hb13.mono (unhide HB12).size))
    have HS1b := hide ((unhide HS1).below hb13 (unhide HS1).lt)
    have HS2 := hide hs2
    have hwl := wordsB_len v.data.toList
    rw [len_eq] at hwl
    clear hs2 hb13 hg2 HS1 HB10 HB12
    go_wp2_with fail
    refine (sameTexts_any _ _ _ _ _ _ _ (unhide HS1b) (unhide HS2) (by omega) (by omega) rfl).mono ?_
    rintro e w14 ⟨rfl, n14, rfl⟩
    have HB14 := hide (Below.trans (unhide HB13) ((below_drewAny w13 n14).mono (unhide HB13).size))
    clear HS1b HS2 HB13
    go_wp2_with fail
    refine (implNameOk_any _ _ (by omega)).mono ?_
    rintro e w15 ⟨rfl, rfl⟩
    go_wp2_with fail
    refine (specNameOk_any _ _ (by omega)).mono ?_
    rintro e w16 ⟨rfl, rfl⟩
    by_cases hn : 0 ≤ readDec s.data.toList
    · obtain ⟨hbk, hle⟩ := readDec_back s hn
      go_wp2_with fail
      refine (implDecText_any _ _ (by omega) (by omega) (tab_on (unhide HT) (unhide HB14))).mono ?_
      rintro e w16 ⟨rfl, hb16⟩
      have HBT := hide (Below.trans (unhide HB14) (hb16.mono (unhide HB14).size))
      rw [hbk]
      clear hb16 HB14 hbk hle
      clear HM HT hx0 hx1 hvs hks hwl
      by_cases he : t.size = 0
      · have hemp := str_empty he
        have hz : (crc t.data.toList : Int) = 0 := by rw [show t.data.toList = [] from List.eq_nil_of_length_eq_zero (by rw [len_eq]; exact he), crc_nil]; rfl
        go_wp2_with fail
        refine (implCheckSum_any _ _ (by omega)).mono ?_
        rintro e w17 ⟨rfl, hb17⟩
        have HB17 := hide (Below.trans (unhide HBT) (hb17.mono (unhide HBT).size))
        clear hb17
        go_wp2
        go_ret
        exact ⟨rfl, unhide HB17⟩
      · have hemp := str_full he
        have hcv := fun w s => run_bytes_of_string (P := Tryd.prog) w 9 40 5 s Tryd.underlying9 Tryd.underlying40 Tryd.underlying5
        go_wp2_with fail
        refine (at_any _ _ _ _ 2 _ ((unhide HK).below ((unhide HBT).drew.alloc (unhide HBT).size _) (Nat.le_refl _)) (by decide)).mono ?_
        rintro e w17 ⟨x2, rfl, hx20, hx21, hw⟩
        have HR := hide (row_made w16 t (grownCap w16 t.size 0 5))
        have HB17 := hide ((unhide HBT).drew.alloc (unhide HBT).size (.cells (bytesRow t (grownCap w16 t.size 0 5)) 5 ((bytesRow t (grownCap w16 t.size 0 5)).size, (bytesRow t (grownCap w16 t.size 0 5)).size + 1)))
        rw [hw] at HR HB17
        have hBg : w.heap.size ≤ w16.heap.size := by have := (unhide HBT).size; simpa using this
        clear hw hcv HBT
        obtain ⟨X2, rfl⟩ := Int.eq_ofNat_of_zero_le hx20
        have htp : (0 : Int) < (t.size : Int) := by omega
        go_wp2_with fail
        have hI0 : 0 ≤ (X2 : Int) % (t.size : Int) := Int.emod_nonneg _ (by omega)
        have hI1 : (X2 : Int) % (t.size : Int) < (t.size : Int) := Int.emod_lt_of_pos _ htp
        generalize (X2 : Int) % (t.size : Int) = y at hI0 hI1 ⊢
        obtain ⟨I, rfl⟩ := Int.eq_ofNat_of_zero_le hI0
        have hIl : I < t.data.toList.length := by rw [len_eq]; omega
        go_cut [80] from 80 to 92 (fun _ wx => ∃ Y : Nat, 0 < Y ∧ Y < 256 ∧ Row wx w16.heap.size (t.data.toList.set I (t.data.toList[I] ^^^ UInt8.ofNat Y)) ∧ Below w.heap.size w wx)
        case first =>
          have hc := (unhide HR).cell I hIl
          have hf := (unhide HR).frozen I hIl
          clear hss he hemp hbb hbig hl hn hx20 hx21 htp hI0
          go_region_with (go_at_call 27; refine (at_any _ _ _ _ 3 _ ((unhide HK).below (unhide HB17).drew (Nat.le_refl _)) (by decide)).mono ?_; rintro e w18 ⟨x3, rfl, hx30, hx31, rfl⟩)
          all_goals
            have R := row_xor (unhide HR) hIl hx30 hx31 (unhide HB17) hBg
            go_wp2_with fail
            go_meet
            exact R
        case rest =>
          obtain ⟨Y, hY0, hY1, hrow, hbc⟩ := hcut
          have hstr := hrow.str (grownCap w16 t.size 0 5)
          rw [List.length_set, len_eq] at hstr
          have hne := crc_changed t.data.toList I hIl (t.data.toList[I] ^^^ UInt8.ofNat Y) (xor_ne _ _ hY0 hY1)
          have hsz : (bs (t.data.toList.set I (t.data.toList[I] ^^^ UInt8.ofNat Y))).size ≤ 1048576 := by rw [bs_size, List.length_set, len_eq]; omega
          generalize t.data.toList.set I (t.data.toList[I] ^^^ UInt8.ofNat Y) = l at hrow hstr hne hsz
          have HBC := hide hbc
          have hne2 : ((crc l : Int) == (crc t.data.toList : Int)) = false := by simp; omega
          clear hbc hrow HR HB17 hx20 hx21 hI0 HK
          go_wp2_with fail
          refine (implCheckSum_any _ _ hsz).mono ?_
          rintro e w19 ⟨rfl, hb19⟩
          rw [show (bs l).data.toList = l by simp [bs]]
          have HB19 := hide (Below.trans (unhide HBC) (hb19.mono (unhide HBC).size))
          clear hb19 HBC
          go_wp2_with fail
          refine (implCheckSum_any _ _ (by omega)).mono ?_
          rintro e w20 ⟨rfl, hb20⟩
          have HB20 := hide (Below.trans (unhide HB19) (hb20.mono (unhide HB19).size))
          clear hb20 HB19
          go_wp2
          go_ret
          exact ⟨ret_bool (by rw [bne, hne2]; rfl), unhide HB20⟩
    · have HBT := HB14
      clear HB14
      clear HM HT hx0 hx1 hvs hks hwl
      by_cases he : t.size = 0
      · have hemp := str_empty he
        have hz : (crc t.data.toList : Int) = 0 := by rw [show t.data.toList = [] from List.eq_nil_of_length_eq_zero (by rw [len_eq]; exact he), crc_nil]; rfl
        go_wp2_with fail
        refine (implCheckSum_any _ _ (by omega)).mono ?_
        rintro e w17 ⟨rfl, hb17⟩
        have HB17 := hide (Below.trans (unhide HBT) (hb17.mono (unhide HBT).size))
        clear hb17
        go_wp2
        go_ret
        exact ⟨rfl, unhide HB17⟩
      · have hemp := str_full he
        have hcv := fun w s => run_bytes_of_string (P := Tryd.prog) w 9 40 5 s Tryd.underlying9 Tryd.underlying40 Tryd.underlying5
        go_wp2_with fail
        refine (at_any _ _ _ _ 2 _ ((unhide HK).below ((unhide HBT).drew.alloc (unhide HBT).size _) (Nat.le_refl _)) (by decide)).mono ?_
        rintro e w17 ⟨x2, rfl, hx20, hx21, hw⟩
        have HR := hide (row_made (w13.drewN n14) t (grownCap (w13.drewN n14) t.size 0 5))
        have HB17 := hide ((unhide HBT).drew.alloc (unhide HBT).size (.cells (bytesRow t (grownCap (w13.drewN n14) t.size 0 5)) 5 ((bytesRow t (grownCap (w13.drewN n14) t.size 0 5)).size, (bytesRow t (grownCap (w13.drewN n14) t.size 0 5)).size + 1)))
        rw [hw] at HR HB17
        have hBg : w.heap.size ≤ w13.heap.size := by have := (unhide HBT).size; simpa using this
        clear hw hcv HBT
        obtain ⟨X2, rfl⟩ := Int.eq_ofNat_of_zero_le hx20
        have htp : (0 : Int) < (t.size : Int) := by omega
        go_wp2_with fail
        have hI0 : 0 ≤ (X2 : Int) % (t.size : Int) := Int.emod_nonneg _ (by omega)
        have hI1 : (X2 : Int) % (t.size : Int) < (t.size : Int) := Int.emod_lt_of_pos _ htp
        generalize (X2 : Int) % (t.size : Int) = y at hI0 hI1 ⊢
        obtain ⟨I, rfl⟩ := Int.eq_ofNat_of_zero_le hI0
        rw [show (w13.drewN n14).heap.size = w13.heap.size by simp] at HR
        have hIl : I < t.data.toList.length := by rw [len_eq]; omega
        go_cut [80] from 80 to 92 (fun _ wx => ∃ Y : Nat, 0 < Y ∧ Y < 256 ∧ Row wx w13.heap.size (t.data.toList.set I (t.data.toList[I] ^^^ UInt8.ofNat Y)) ∧ Below w.heap.size w wx)
        case first =>
          have hc := (unhide HR).cell I hIl
          have hf := (unhide HR).frozen I hIl
          clear hss he hemp hbb hbig hl hn hx20 hx21 htp hI0
          go_region_with (go_at_call 27; refine (at_any _ _ _ _ 3 _ ((unhide HK).below (unhide HB17).drew (Nat.le_refl _)) (by decide)).mono ?_; rintro e w18 ⟨x3, rfl, hx30, hx31, rfl⟩)
          all_goals
            have R := row_xor (unhide HR) hIl hx30 hx31 (unhide HB17) hBg
            go_wp2_with fail
            go_meet
            exact R
        case rest =>
          obtain ⟨Y, hY0, hY1, hrow, hbc⟩ := hcut
          have hstr := hrow.str (grownCap (w13.drewN n14) t.size 0 5)
          rw [List.length_set, len_eq] at hstr
          have hne := crc_changed t.data.toList I hIl (t.data.toList[I] ^^^ UInt8.ofNat Y) (xor_ne _ _ hY0 hY1)
          have hsz : (bs (t.data.toList.set I (t.data.toList[I] ^^^ UInt8.ofNat Y))).size ≤ 1048576 := by rw [bs_size, List.length_set, len_eq]; omega
          generalize t.data.toList.set I (t.data.toList[I] ^^^ UInt8.ofNat Y) = l at hrow hstr hne hsz
          have HBC := hide hbc
          have hne2 : ((crc l : Int) == (crc t.data.toList : Int)) = false := by simp; omega
          clear hbc hrow HR HB17 hx20 hx21 hI0 HK
          go_wp2_with fail
          refine (implCheckSum_any _ _ hsz).mono ?_
          rintro e w19 ⟨rfl, hb19⟩
          rw [show (bs l).data.toList = l by simp [bs]]
          have HB19 := hide (Below.trans (unhide HBC) (hb19.mono (unhide HBC).size))
          clear hb19 HBC
          go_wp2_with fail
          refine (implCheckSum_any _ _ (by omega)).mono ?_
          rintro e w20 ⟨rfl, hb20⟩
          have HB20 := hide (Below.trans (unhide HB19) (hb20.mono (unhide HB19).size))
          clear hb20 HB19
          go_wp2
          go_ret
          exact ⟨ret_bool (by rw [bne, hne2]; rfl), unhide HB20⟩
  · have hbb : bigB len0 = true := by simp [bigB]; omega
    go_enter Tryd.func4, Tryd.ntmps4
    go_wp2_with fail
    refine (big_any _ _ _ _ hl).mono ?_
    rintro e wb ⟨rfl, rfl⟩
    go_wp2
    go_ret
    exact ⟨rfl, Below.refl _ _⟩

set_option maxRecDepth 100000 in
theorem contract (H : Type) (enc : TypeId × Value → H) (W : World) (base : Nat) (args : Array Value) (ds gs : List (DataW H)) (before : List MemPlace)
    (hval : ∀ (j : Nat) t v, Tryd.f4.params[j]? = some t → args[j]? = some v → Value.okWide Tryd.prog W .any base t v)
    (hW : DataW.Whole enc Tryd.prog Tryd.f4.params.toList Rows.fnSumsSpec.vars false W args.toList ds gs before) (hL : laidMetH Tryd.prog Rows.fnSumsRow.laid W) (hsh : W.ShapedOpen Tryd.prog) :
    Calls Tryd.prog 4 args W fun e W' => ∃ v, e = .returned v ∧ Rows.fnSumsSpec.post enc Tryd.prog Tryd.f4 false true false false W args v W' := by
  have hW' := hW
  obtain ⟨p, q, hA0, hV, rfl, hfz, hnd⟩ := hW
  have hA : DataW.TrodAll enc Tryd.prog W 0 (fun _ => true) true Tryd.f4.params.toList args.toList ds p := hA0
  rw [Tryd.params4] at hA hval
  obtain ⟨v0, vs0, d0, ds0, p0, q0, hargs, rfl, rfl, h0, r0⟩ := trodAll_cons hA
  obtain ⟨rfl, rfl, rfl⟩ := trodAll_nil r0
  obtain rfl : args = #[v0] := by cases args; simp_all
  obtain ⟨rfl, rfl⟩ := trodVars_none hV
  obtain ⟨a0, len0, cap0, rfl⟩ := okWide_slice Tryd.underlying40 (hval 0 40 v0 rfl rfl)
  have k0 := h0
  have lt0 : ∀ x ∈ p0, x.block < W.heap.size := by obtain ⟨m, hm⟩ := k0; exact DataW.trod_lt m _ _ _ hm
  obtain ⟨z0, w0⟩ : ∃ zs, IsRow W a0 len0 cap0 zs := by
    obtain ⟨fuel, hf⟩ := h0
    rcases open_ints Tryd.underlying40 Tryd.underlying5 (by kernel_rfl) hf with ⟨hcs, _⟩ | ⟨x, l, c, zs, hcs, _, hl, hm, hz, _, hcell, hwz⟩
    · simp [Value.cells] at hcs
      obtain ⟨rfl, rfl, rfl⟩ := hcs
      exact ⟨[], .inl ⟨rfl, rfl, rfl, rfl⟩⟩
    · simp [Value.cells] at hcs
      obtain ⟨rfl, rfl, rfl⟩ := hcs
      exact ⟨zs, .inr ⟨_, rfl, hl, hm, by simpa using hz, hcell, hwz⟩⟩
  clear hA0
  refine (walk a0 len0 cap0 z0 W w0 hL hsh).mono fun e W' ⟨he, bel⟩ => ?_
  subst he
  exact ⟨_, rfl, _, _, _, [], _, [], hW', trodAll_mk1 (shut_bool Tryd.underlying4 _), (trodAll_cons_mk (Below.trod laidOut (by kernel_rfl) (of_decide_eq_true (by kernel_rfl)) k0 bel lt0) trodAll_mk0), rfl, bel.frame _, fun h => by cases h⟩

theorem reads (os : Os) {H : Type} (enc : TypeId × Value → H) : ∃ places, DataW.whole enc Tryd.prog ((World.laidAll Tryd.prog os Rows.fnSumsRow.laid).forCall (fun _ _ => 0) ⟨#[], #[.slice none 0 0], []⟩).memory Tryd.f4.params.toList Rows.fnSumsSpec.vars false #[Value.slice none 0 0].toList 8 = some ([.nil], [], places) :=
  ⟨[], by kernel_rfl⟩

set_option maxRecDepth 100000 in
theorem lifted (os : Os) (started : os.Started) (H : Type) (enc : TypeId × Value → H) (F : Stop.Interp) :
    ReturnsInHanded {} Tryd.checked os 4 .any ((OpenSpec.ofChange Rows.fnSumsSpec).preRow enc Tryd.prog Tryd.f4 Rows.fnSumsRow.domain false Rows.fnSumsRow.laid) (((OpenSpec.ofChange Rows.fnSumsSpec).at F).post enc Tryd.prog Tryd.f4 false true false false) := by
  obtain ⟨places, hx⟩ := reads os enc
  refine returnsInHanded_of_row (C := Tryd.checked) (s := OpenSpec.ofChange Rows.fnSumsSpec) own started (by kernel_rfl) Tryd.func4
    (witness_row_at (enc := enc) (C := Tryd.checked) false (World.laidAll Tryd.prog os Rows.fnSumsRow.laid) #[.slice none 0 0] (World.laidAll_os _ _ _) (by kernel_rfl) (by kernel_rfl) (by kernel_rfl)
      (OpenSpec.preRow_of_cond 8 hx (by kernel_rfl) (fun k hk => by cases hk) (by kernel_rfl) (laidMet_laidAll _ (by kernel_rfl) (by kernel_rfl)))) ?_
  intro W base args ds gs before hval hW _ _ _ hL hsh _
  exact contract H enc W base args ds gs before hval hW hL hsh

theorem said : Rows.FnSumsSaid :=
  OpenClaim.holds_of_cond 4 Tryd.f4 rfl rfl rfl rfl rfl rfl rfl ⟨rfl, rfl, rfl, rfl, rfl⟩ rfl rfl rfl rfl rfl (by kernel_rfl) Tryd.func4 (by kernel_rfl)
    (of_decide_eq_true (by kernel_rfl)) (by unfold Func.isWrapper; first | (rw [if_pos (by decide +kernel)]; kernel_rfl) | (rw [if_neg (by decide +kernel)]; exact ⟨rfl, rfl⟩))
    (fun os started H enc _ F => by rw [OpenClaim.pre_eq_preRow]; exact lifted os started H enc F)

theorem plain (f : FuncId) (fn : Func) (hf : Tryd.pinned.checked.prog.funcNamed Rows.fnSumsRow.func = some f) (hfn : Tryd.pinned.checked.prog.funcs[f]? = some fn) :
    true = Tryd.pinned.checked.prog.looks [] ∧ ∀ (j : Nat) t, fn.params[j]? = some t → Tryd.pinned.checked.prog.wantsStandIn t = false := by
  obtain rfl : f = 4 := Option.some.inj ((show Tryd.prog.funcNamed Rows.fnSumsRow.func = some 4 by kernel_rfl).symm.trans hf) |>.symm
  obtain rfl : fn = Tryd.f4 := (Option.some.inj (Tryd.func4.symm.trans hfn)).symm
  refine ⟨by kernel_rfl, fun j t ht => ?_⟩
  rw [Tryd.params4] at ht
  obtain rfl : t = 40 := by simpa using Array.mem_of_getElem? ht
  exact (show Tryd.prog.wantsStandIn 40 = false by kernel_rfl)
end Go.Proofs.YthnkbdjombiodaaDoor.fnSums

namespace Go.Proofs.YthnkbdjombiodaaDoor
theorem fnSums_card : Rows.FnSumsCardSaid :=
  Claim7.holds_tied_plain_at .later [] _ _ _ _ fnSums.said (fun _ h => by cases h) (by kernel_rfl) (fun _ h => by cases h) fnSums_row_tie rfl ⟨rfl, rfl⟩ (by kernel_rfl) rfl fnSums.plain (by kernel_rfl)
#print axioms fnSums_card
end Go.Proofs.YthnkbdjombiodaaDoor
