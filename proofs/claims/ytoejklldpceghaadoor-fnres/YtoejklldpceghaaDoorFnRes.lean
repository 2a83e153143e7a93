/-
  The law FnRes answers true at every slice of bytes, and leaves it as it was: what is added can be taken away again, a share is no more than the whole, and two shares no more than that of both; the library's tables stand as its text lays them (the card ties that); no other condition.
-/
import Derived.Test.YtoejklldpceghaaDoorCards
import Derived.Test.YtoejklldpceghaaDoorTie
import Derived.Test.YtoejklldpceghaaDoorResEnd
import Derived.Test.YtoejklldpceghaaDoorResM
import Derived.Test.YtoejklldpceghaaDoorDrawAdd
import Derived.Test.YtoejklldpceghaaDoorDrawShare
import Derived.Test.YtoejklldpceghaaDoorDrawReadRes
import Derived.Test.YtoejklldpceghaaDoorCode
import Derived.Test.YtoejklldpceghaaDoorAt
import Derived.Test.YtoejklldpceghaaDoorVars
import Derived.Test.YtoejklldpceghaaDoorTab
import Derived.Test.YtoejklldpceghaaDoorAddS
import Derived.Test.YtoejklldpceghaaDoorSubS
import Derived.Test.YtoejklldpceghaaDoorWithinS
import Derived.Test.YtoejklldpceghaaDoorShareS
import Derived.Test.YtoejklldpceghaaDoorTimesS
import Derived.Test.YtoejklldpceghaaDoorReadResS
import Derived.Test.YtoejklldpceghaaDoorResTextS
import Derived.Test.YtoejklldpceghaaDoorResOkI
import Derived.Test.YtoejklldpceghaaDoorAddI
import Derived.Test.YtoejklldpceghaaDoorSubI
import Derived.Test.YtoejklldpceghaaDoorWithinI
import Derived.Test.YtoejklldpceghaaDoorShareI
import Derived.Test.YtoejklldpceghaaDoorTimesI
import Derived.Test.YtoejklldpceghaaDoorReadResI
import Derived.Test.YtoejklldpceghaaDoorResTextI
import Derived.WalkKit
import Derived.Deep.CutRange
import Derived.Deep.RegionHeld3
import Derived.Deep.RegionWith
import Derived.Deep.QuietTactic
import Derived.ProofKit
import Derived.OpenShut
import Derived.ShutString
import Derived.ChangeOld
import Derived.Below
import Derived.Deep.DeepHandedRow
import Derived.Lib.LaidTab
import Derived.Lay
import Derived.LaidSub
import Derived.MakeChecks
namespace Go.Proofs.YtoejklldpceghaaDoor.fnRes
open Go.ChangeShapes Go.WideShapes Go.ChangeAt Go.RowKit
open Go.ChangeMaps (open_string shut_string)
set_option linter.unusedVariables false

theorem own : ownKnob Tryd.prog.godebug = none := by kernel_rfl
theorem laidOut : laidOutB Tryd.prog = true := by kernel_rfl

theorem gTabType : (Tryd.prog.globals[1]?).map (·.type) = some 80 := by kernel_rfl
theorem cellsT : Tryd.prog.cellsOf 80 = 20 := by kernel_rfl
theorem cellsE : Tryd.prog.cellsOf 74 = 1 := by kernel_rfl
theorem table {W : World} (h : laidMetH Tryd.prog Rows.fnResRow.laid W) : Lib.TabIs Tryd.prog W "internal/strconv.uint64pow10" .u64 Lib.pow10Tab := by
  have h1 : laidMet Tryd.prog Rows.fnResRow.laid W := by rw [MakeChecks.laidMetH_plain _ _ _ (by kernel_rfl)] at h; exact h
  have h2 := h1.filter (fun x => x.1 == "internal/strconv.uint64pow10")
  have e : (Rows.fnResRow.laid.filter fun x => x.1 == "internal/strconv.uint64pow10") = [("internal/strconv.uint64pow10", Lib.tabData .u64 Lib.pow10Tab)] := by kernel_rfl
  rw [e] at h2
  exact Lib.tabIs_of_head (rest := []) gTab gTabType Tryd.underlying80 Tryd.underlying74 cellsE cellsT h2
set_option maxRecDepth 100000 in
set_option maxHeartbeats 8000000 in
theorem walk (a0 : Option Addr) (len0 cap0 : Nat) (z0 : List Int) (w : World) (w0 : IsRow w a0 len0 cap0 z0) (hL : laidMetH Tryd.prog Rows.fnResRow.laid w) (hsh : w.ShapedOpen Tryd.prog) :
    Calls Tryd.prog 3 #[.slice a0 len0 cap0] w fun e w' => e = .returned (.bool true) ∧ Below w.heap.size w w' := by
  have hl := w0.len
  have HT : Hid (Lib.TabIs Tryd.prog w "internal/strconv.uint64pow10" .u64 Lib.pow10Tab) := table hL
  have HML := hide (MaxLenAt.of hsh)
  clear hL hsh
  by_cases hbig : len0 ≤ 1048576
  · have HK := hide (code_of w0 hbig)
    have hbb : bigB len0 = false := by simp [bigB]; omega
    clear w0
    go_enter Tryd.func3, Tryd.ntmps3
    go_wp2_with fail
    refine (big_any _ _ _ _ hl).mono ?_
    rintro e wb ⟨rfl, rfl⟩
    go_wp2_with fail
    refine (drawAdd_any _ _ _ _ _ (unhide HK)).mono ?_
    rintro e w1 ⟨a1, a2, b1, b2, rfl, hi, hb⟩
    have HI := hide hi
    clear hi
    have V1 := hide ((Vars.nil w1).two a1 a2 b1 b2)
    have HB1 := hide (below_al (below_al hb (.cells #[.int .i64 a1, .int .i64 a2] 25)) (.cells #[.int .i64 b1, .int .i64 b2] 25))
    have F1 := vars_read2 (unhide V1)
    clear hb
    obtain ⟨s1, s2, hv⟩ : ∃ x y, bothV 1 a1 a2 b1 b2 = rv x y := by unfold bothV; split <;> exact ⟨_, _, rfl⟩
    obtain ⟨ok, hok⟩ : ∃ ok, bothOk 1 a1 a2 b1 b2 = ok := ⟨_, rfl⟩
    have HVAdd := hide hv
    have HOAdd := hide hok
    have HIAdd := hide (fun wx => by have := implAdd_any a1 a2 b1 b2 wx; rw [hv, hok] at this; exact this)
    have HSAdd := hide (fun wx => by have := specAdd_any a1 a2 b1 b2 wx; rw [hv, hok] at this; exact this)
    clear hv hok
    obtain ⟨d1, d2, hv⟩ : ∃ x y, bothV (-1) a1 a2 b1 b2 = rv x y := by unfold bothV; split <;> exact ⟨_, _, rfl⟩
    obtain ⟨le, hok⟩ : ∃ ok, bothOk (-1) a1 a2 b1 b2 = ok := ⟨_, rfl⟩
    have HVSub := hide hv
    have HOSub := hide hok
    have HISub := hide (fun wx => by have := implSub_any a1 a2 b1 b2 wx; rw [hv, hok] at this; exact this)
    have HSSub := hide (fun wx => by have := specSub_any a1 a2 b1 b2 wx; rw [hv, hok] at this; exact this)
    clear hv hok
    go_wp2_with fail
    refine (unhide HIAdd _).mono ?_
    rintro e w2 ⟨rfl, hb⟩
    have V2 := hide (Vars.one ((unhide V1).below hb) s1 s2)
    have HB2 := hide (below_al (below_on (unhide HB1) hb) (.cells #[.int .i64 s1, .int .i64 s2] 25))
    have F2 := vars_read3 (unhide V2)
    clear hb V1 HB1 F1
    go_wp2_with fail
    refine (unhide HSAdd _).mono ?_
    rintro e w3 ⟨rfl, hb⟩
    have V3 := hide (Vars.one ((unhide V2).below hb) s1 s2)
    have HB3 := hide (below_al (below_on (unhide HB2) hb) (.cells #[.int .i64 s1, .int .i64 s2] 25))
    have F3 := vars_read4 (unhide V3)
    clear hb V2 HB2 F2
    go_wp2_with fail
    refine (unhide HISub _).mono ?_
    rintro e w4 ⟨rfl, hb⟩
    have V4 := hide (Vars.one ((unhide V3).below hb) d1 d2)
    have HB4 := hide (below_al (below_on (unhide HB3) hb) (.cells #[.int .i64 d1, .int .i64 d2] 25))
    have F4 := vars_read5 (unhide V4)
    clear hb V3 HB3 F3
    go_wp2_with fail
    refine (unhide HSSub _).mono ?_
    rintro e w5 ⟨rfl, hb⟩
    have V5 := hide (Vars.one ((unhide V4).below hb) d1 d2)
    have HB5 := hide (below_al (below_on (unhide HB4) hb) (.cells #[.int .i64 d1, .int .i64 d2] 25))
    have F5 := vars_read6 (unhide V5)
    clear hb V4 HB4 F4
    clear HIAdd HSAdd HISub HSSub
    go_wp2_with fail
    refine (drawShare_any _ _ _ _ _ ((unhide HK).below (unhide HB5) (Nat.le_refl _))).mono ?_
    rintro e w6 ⟨t1, t2, n, rfl, hj, hb⟩
    have HJ := hide hj
    clear hj
    have V6 := hide (Vars.one ((unhide V5).below hb) t1 t2)
    have HB6 := hide (below_al (below_on (unhide HB5) hb) (.cells #[.int .i64 t1, .int .i64 t2] 25))
    have F6 := vars_read7 (unhide V6)
    clear hb V5 HB5 F5
    obtain ⟨h1, hh1⟩ : ∃ x, shareM t1 t2 n = x := ⟨_, rfl⟩
    obtain ⟨h2, hh2⟩ : ∃ x, shareC t1 t2 n = x := ⟨_, rfl⟩
    have HH1 := hide hh1
    have HH2 := hide hh2
    have HIShare := hide (fun wx => by have := implShare_any t1 t2 n wx; rw [hh1, hh2] at this; exact this)
    have HSShare := hide (fun wx => by have := specShare_any t1 t2 n wx; rw [hh1, hh2] at this; exact this)
    clear hh1 hh2
    go_wp2_with fail
    refine (unhide HIShare _).mono ?_
    rintro e w7 ⟨rfl, hb⟩
    have V7 := hide (Vars.one ((unhide V6).below hb) h1 h2)
    have HB7 := hide (below_al (below_on (unhide HB6) hb) (.cells #[.int .i64 h1, .int .i64 h2] 25))
    have F7 := vars_read8 (unhide V7)
    clear hb V6 HB6 F6
    go_wp2_with fail
    refine (drawReadRes_any _ _ _ _ _ ((unhide HK).below (unhide HB7) (Nat.le_refl _))).mono ?_
    rintro e w8 ⟨u, rfl, hu, hb⟩
    have V8 := hide ((unhide V7).below hb)
    have HB8 := hide (below_on (unhide HB7) hb)
    have F8 := vars_read8 (unhide V8)
    clear hb V7 HB7 F7
    obtain ⟨x1, x2, hv⟩ : ∃ x y, readRV u.data.toList = rv x y := by unfold readRV; split <;> exact ⟨_, _, rfl⟩
    obtain ⟨is, hok⟩ : ∃ ok, readROk u.data.toList = ok := ⟨_, rfl⟩
    have HVR := hide hv
    have HOR := hide hok
    have HIR := hide (fun wx (hbx : Below w.heap.size w wx) => by have := implReadRes_any u wx (by omega) ((unhide HML).below hbx); rw [hv, hok] at this; exact this)
    have HSR := hide (fun wx => by have := specReadRes_any u wx (by omega); rw [hv, hok] at this; exact this)
    clear hv hok
    go_wp2_with fail
    refine (unhide HIR _ (unhide HB8)).mono ?_
    rintro e w9 ⟨rfl, hb⟩
    have V9 := hide (Vars.one ((unhide V8).below hb) x1 x2)
    have HB9 := hide (below_al (below_on (unhide HB8) hb) (.cells #[.int .i64 x1, .int .i64 x2] 25))
    have F9 := vars_read9 (unhide V9)
    clear hb V8 HB8 F8
    go_wp2_with fail
    refine (unhide HSR _).mono ?_
    rintro e w10 ⟨rfl, hb⟩
    have V10 := hide (Vars.one ((unhide V9).below hb) x1 x2)
    have HB10 := hide (below_al (below_on (unhide HB9) hb) (.cells #[.int .i64 x1, .int .i64 x2] 25))
    have F10 := vars_read10 (unhide V10)
    clear hb V9 HB9 F9
    clear HIR HSR
    obtain ⟨wi, hq⟩ : ∃ x, within a1 a2 b1 b2 = x := ⟨_, rfl⟩
    have HQwi := hide hq
    have HIW := hide (fun wx => by have := implWithin_any a1 a2 b1 b2 wx; rw [hq] at this; exact this)
    have HSW := hide (fun wx => by have := specWithin_any a1 a2 b1 b2 wx; rw [hq] at this; exact this)
    clear hq
    obtain ⟨tm, hq⟩ : ∃ x, times a1 a2 b1 b2 = x := ⟨_, rfl⟩
    have HQtm := hide hq
    have HITm := hide (fun wx => by have := implTimes_any a1 a2 b1 b2 wx; rw [hq] at this; exact this)
    have HSTm := hide (fun wx => by have := specTimes_any a1 a2 b1 b2 wx; rw [hq] at this; exact this)
    clear hq
    obtain ⟨ro, hq⟩ : ∃ x, resOk a1 a2 = x := ⟨_, rfl⟩
    have HQro := hide hq
    have HIK := hide (fun wx => by have := implResOk_any a1 a2 wx; rw [hq] at this; exact this)
    have HSK := hide (fun wx => by have := specResOk_bel a1 a2 wx; rw [hq] at this; exact this)
    clear hq
    obtain ⟨ta, hq⟩ : ∃ x, resText a1 a2 = x := ⟨_, rfl⟩
    have HQta := hide hq
    have HITa := hide (fun wx (hbx : Below w.heap.size w wx) => by have := implResText_any a1 a2 wx (unhide HI).1.1 (unhide HI).1.2 (unhide HI).2.1.1 (unhide HI).2.1.2 (tab_on (unhide HT) hbx); rw [hq] at this; exact this)
    have HSTa := hide (fun wx => by have := specResText_any a1 a2 wx (unhide HI).1.1 (unhide HI).1.2 (unhide HI).2.1.1 (unhide HI).2.1.2; rw [hq] at this; exact this)
    clear hq
    have K10 := hide (show KV w [(w10.heap.size, x1, x2), (w9.heap.size, x1, x2), (w7.heap.size, h1, h2), (w6.heap.size, t1, t2), (w5.heap.size, d1, d2), (w4.heap.size, d1, d2), (w3.heap.size, s1, s2), (w2.heap.size, s1, s2), (w1.heap.size + 1, b1, b2), (w1.heap.size, a1, a2)] _ from ⟨unhide V10, unhide HB10⟩)
    clear V10 HB10 F10
    go_upto_region 13 with (fail)
    simp only [List.append_eq, List.cons_append, List.nil_append]
    go_cut [154] from 79 to 154 (fun b wx => b = .bool false ∧ KV w [(w10.heap.size, x1, x2), (w9.heap.size, x1, x2), (w7.heap.size, h1, h2), (w6.heap.size, t1, t2), (w5.heap.size, d1, d2), (w4.heap.size, d1, d2), (w3.heap.size, s1, s2), (w2.heap.size, s1, s2), (w1.heap.size + 1, b1, b2), (w1.heap.size, a1, a2)] wx)
    case first =>
      have RD : ∀ wx, KV w [(w10.heap.size, x1, x2), (w9.heap.size, x1, x2), (w7.heap.size, h1, h2), (w6.heap.size, t1, t2), (w5.heap.size, d1, d2), (w4.heap.size, d1, d2), (w3.heap.size, s1, s2), (w2.heap.size, s1, s2), (w1.heap.size + 1, b1, b2), (w1.heap.size, a1, a2)] wx → _ := fun wx h => vars_read10 h.1
      cases is with
      | true =>
        have hro := unhide HOR
        have hrv := unhide HVR
        have hx : readM u.data.toList = x1 ∧ readC u.data.toList = x2 := by rw [readRV, hro] at hrv; simpa [rv] using hrv
        have htx : resText x1 x2 = u := by rw [← hx.1, ← hx.2]; exact read_back hro
        have hxb := resOk_bd (show resOk x1 x2 = true by rw [← hx.1, ← hx.2]; exact hro)
        have HITx := hide (fun wx (hbx : Below w.heap.size w wx) => by have := implResText_any x1 x2 wx (by omega) (by omega) (by omega) (by omega) (tab_on (unhide HT) hbx); rw [htx] at this; exact this)
        clear hro hrv hx htx hxb
        refine wp_region_held_drew (S := fun wx => KV w [(w10.heap.size, x1, x2), (w9.heap.size, x1, x2), (w7.heap.size, h1, h2), (w6.heap.size, t1, t2), (w5.heap.size, d1, d2), (w4.heap.size, d1, d2), (w3.heap.size, s1, s2), (w2.heap.size, s1, s2), (w1.heap.size + 1, b1, b2), (w1.heap.size, a1, a2)] wx) (by kernel_rfl) (KV.drew (unhide K10)) (fun hS => ?_)
        refine wpAnyH_take (i := 0) (oi := { dst := some 79, op := Op.load 25 (Operand.tmp 5), type := 25, pos := "laws.go:309", after := #[], guard := none }) (v := rv s1 s2) rfl (by kernel_rfl) (by kernel_rfl) (by kernel_rfl) (fun _ _ _ h => h) (Or.inl ⟨by rfl, fun wz hz => by have hq := RD wz hz; clear RD; go_simp⟩) hS ?_
        simp only [Act.put, List.setIfInBounds_toArray, List.set_cons_zero, List.set_cons_succ]
        refine wpAnyH_take (i := 1) (oi := { dst := some 80, op := Op.load 25 (Operand.tmp 7), type := 25, pos := "laws.go:309", after := #[], guard := none }) (v := rv s1 s2) rfl (by kernel_rfl) (by kernel_rfl) (by kernel_rfl) (fun _ _ _ h => h) (Or.inl ⟨by rfl, fun wz hz => by have hq := RD wz hz; clear RD; go_simp⟩) hS ?_
        simp only [Act.put, List.setIfInBounds_toArray, List.set_cons_zero, List.set_cons_succ]
        refine wpAnyH_take (i := 2) (oi := { dst := some 81, op := Op.binOp BinOp.neq 25 (Operand.tmp 79) (Operand.tmp 80) 25, type := 4, pos := "laws.go:309", after := #[{ on := 0, ground := Ground.data }, { on := 1, ground := Ground.data }], guard := none }) (v := .bool false) rfl (by kernel_rfl) (by kernel_rfl) (by kernel_rfl) (fun _ _ _ h => h) (Or.inl ⟨by rfl, fun wz _ => by go_simp⟩) hS ?_
        simp only [Act.put, List.setIfInBounds_toArray, List.set_cons_zero, List.set_cons_succ]
        refine wpAnyH_take (i := 3) (oi := { dst := some 82, op := Op.move (Operand.tmp 81), type := 4, pos := "laws.go:309", after := #[{ on := 2, ground := Ground.data }], guard := none }) (v := .bool false) rfl (by kernel_rfl) (by kernel_rfl) (by kernel_rfl) (fun _ _ _ h => h) (Or.inl ⟨by rfl, fun wz _ => by go_simp⟩) hS ?_
        simp only [Act.put, List.setIfInBounds_toArray, List.set_cons_zero, List.set_cons_succ]
        refine wpAnyH_take (i := 4) (oi := { dst := some 83, op := Op.move (Operand.tmp 6), type := 4, pos := "laws.go:309", after := #[{ on := 3, ground := Ground.guard }], guard := some (3, false) }) (v := .bool ok) rfl (by kernel_rfl) (by kernel_rfl) (by kernel_rfl) (fun _ _ _ h => h) (Or.inl ⟨by rfl, fun wz _ => by go_simp⟩) hS ?_
        simp only [Act.put, List.setIfInBounds_toArray, List.set_cons_zero, List.set_cons_succ]
        refine wpAnyH_take (i := 5) (oi := { dst := some 84, op := Op.move (Operand.tmp 8), type := 4, pos := "laws.go:309", after := #[{ on := 3, ground := Ground.guard }], guard := some (3, false) }) (v := .bool ok) rfl (by kernel_rfl) (by kernel_rfl) (by kernel_rfl) (fun _ _ _ h => h) (Or.inl ⟨by rfl, fun wz _ => by go_simp⟩) hS ?_
        simp only [Act.put, List.setIfInBounds_toArray, List.set_cons_zero, List.set_cons_succ]
        refine wpAnyH_take (i := 6) (oi := { dst := some 85, op := Op.binOp BinOp.neq 4 (Operand.tmp 83) (Operand.tmp 84) 4, type := 4, pos := "laws.go:309", after := #[{ on := 4, ground := Ground.data }, { on := 5, ground := Ground.data }, { on := 3, ground := Ground.guard }], guard := some (3, false) }) (v := .bool false) rfl (by kernel_rfl) (by kernel_rfl) (by kernel_rfl) (fun _ _ _ h => h) (Or.inl ⟨by rfl, fun wz _ => by go_simp⟩) hS ?_
        simp only [Act.put, List.setIfInBounds_toArray, List.set_cons_zero, List.set_cons_succ]
        refine wpAnyH_take (i := 7) (oi := { dst := some 86, op := Op.pick (Operand.tmp 82) (Operand.const (Value.bool true)) (Operand.tmp 85), type := 4, pos := "laws.go:309", after := #[{ on := 3, ground := Ground.data }, { on := 6, ground := Ground.data }], guard := none }) (v := .bool false) rfl (by kernel_rfl) (by kernel_rfl) (by kernel_rfl) (fun _ _ _ h => h) (Or.inl ⟨by rfl, fun wz _ => by go_simp⟩) hS ?_
        simp only [Act.put, List.setIfInBounds_toArray, List.set_cons_zero, List.set_cons_succ]
        refine wpAnyH_take (i := 8) (oi := { dst := some 87, op := Op.move (Operand.tmp 86), type := 4, pos := "laws.go:309", after := #[{ on := 7, ground := Ground.data }, { on := 3, ground := Ground.chain }], guard := none }) (v := .bool false) rfl (by kernel_rfl) (by kernel_rfl) (by kernel_rfl) (fun _ _ _ h => h) (Or.inl ⟨by rfl, fun wz _ => by go_simp⟩) hS ?_
        simp only [Act.put, List.setIfInBounds_toArray, List.set_cons_zero, List.set_cons_succ]
        refine wpAnyH_take (i := 9) (oi := { dst := some 88, op := Op.load 25 (Operand.tmp 9), type := 25, pos := "laws.go:309", after := #[{ on := 8, ground := Ground.guard }], guard := some (8, false) }) (v := rv d1 d2) rfl (by kernel_rfl) (by kernel_rfl) (by kernel_rfl) (fun _ _ _ h => h) (Or.inl ⟨by rfl, fun wz hz => by have hq := RD wz hz; clear RD; go_simp⟩) hS ?_
        simp only [Act.put, List.setIfInBounds_toArray, List.set_cons_zero, List.set_cons_succ]
        refine wpAnyH_take (i := 10) (oi := { dst := some 89, op := Op.load 25 (Operand.tmp 11), type := 25, pos := "laws.go:309", after := #[{ on := 8, ground := Ground.guard }], guard := some (8, false) }) (v := rv d1 d2) rfl (by kernel_rfl) (by kernel_rfl) (by kernel_rfl) (fun _ _ _ h => h) (Or.inl ⟨by rfl, fun wz hz => by have hq := RD wz hz; clear RD; go_simp⟩) hS ?_
        simp only [Act.put, List.setIfInBounds_toArray, List.set_cons_zero, List.set_cons_succ]
        refine wpAnyH_take (i := 11) (oi := { dst := some 90, op := Op.binOp BinOp.neq 25 (Operand.tmp 88) (Operand.tmp 89) 25, type := 4, pos := "laws.go:309", after := #[{ on := 9, ground := Ground.data }, { on := 10, ground := Ground.data }, { on := 8, ground := Ground.guard }], guard := some (8, false) }) (v := .bool false) rfl (by kernel_rfl) (by kernel_rfl) (by kernel_rfl) (fun _ _ _ h => h) (Or.inl ⟨by rfl, fun wz _ => by go_simp⟩) hS ?_
        simp only [Act.put, List.setIfInBounds_toArray, List.set_cons_zero, List.set_cons_succ]
        refine wpAnyH_take (i := 12) (oi := { dst := some 91, op := Op.pick (Operand.tmp 87) (Operand.const (Value.bool true)) (Operand.tmp 90), type := 4, pos := "laws.go:309", after := #[{ on := 8, ground := Ground.data }, { on := 11, ground := Ground.data }], guard := none }) (v := .bool false) rfl (by kernel_rfl) (by kernel_rfl) (by kernel_rfl) (fun _ _ _ h => h) (Or.inl ⟨by rfl, fun wz _ => by go_simp⟩) hS ?_
        simp only [Act.put, List.setIfInBounds_toArray, List.set_cons_zero, List.set_cons_succ]
        refine wpAnyH_take (i := 13) (oi := { dst := some 92, op := Op.move (Operand.tmp 91), type := 4, pos := "laws.go:309", after := #[{ on := 12, ground := Ground.data }, { on := 8, ground := Ground.chain }], guard := none }) (v := .bool false) rfl (by kernel_rfl) (by kernel_rfl) (by kernel_rfl) (fun _ _ _ h => h) (Or.inl ⟨by rfl, fun wz _ => by go_simp⟩) hS ?_
        simp only [Act.put, List.setIfInBounds_toArray, List.set_cons_zero, List.set_cons_succ]
        refine wpAnyH_take (i := 14) (oi := { dst := some 93, op := Op.move (Operand.tmp 10), type := 4, pos := "laws.go:309", after := #[{ on := 13, ground := Ground.guard }], guard := some (13, false) }) (v := .bool le) rfl (by kernel_rfl) (by kernel_rfl) (by kernel_rfl) (fun _ _ _ h => h) (Or.inl ⟨by rfl, fun wz _ => by go_simp⟩) hS ?_
        simp only [Act.put, List.setIfInBounds_toArray, List.set_cons_zero, List.set_cons_succ]
        refine wpAnyH_take (i := 15) (oi := { dst := some 94, op := Op.move (Operand.tmp 12), type := 4, pos := "laws.go:309", after := #[{ on := 13, ground := Ground.guard }], guard := some (13, false) }) (v := .bool le) rfl (by kernel_rfl) (by kernel_rfl) (by kernel_rfl) (fun _ _ _ h => h) (Or.inl ⟨by rfl, fun wz _ => by go_simp⟩) hS ?_
        simp only [Act.put, List.setIfInBounds_toArray, List.set_cons_zero, List.set_cons_succ]
        refine wpAnyH_take (i := 16) (oi := { dst := some 95, op := Op.binOp BinOp.neq 4 (Operand.tmp 93) (Operand.tmp 94) 4, type := 4, pos := "laws.go:309", after := #[{ on := 14, ground := Ground.data }, { on := 15, ground := Ground.data }, { on := 13, ground := Ground.guard }], guard := some (13, false) }) (v := .bool false) rfl (by kernel_rfl) (by kernel_rfl) (by kernel_rfl) (fun _ _ _ h => h) (Or.inl ⟨by rfl, fun wz _ => by go_simp⟩) hS ?_
        simp only [Act.put, List.setIfInBounds_toArray, List.set_cons_zero, List.set_cons_succ]
        refine wpAnyH_take (i := 17) (oi := { dst := some 96, op := Op.pick (Operand.tmp 92) (Operand.const (Value.bool true)) (Operand.tmp 95), type := 4, pos := "laws.go:309", after := #[{ on := 13, ground := Ground.data }, { on := 16, ground := Ground.data }], guard := none }) (v := .bool false) rfl (by kernel_rfl) (by kernel_rfl) (by kernel_rfl) (fun _ _ _ h => h) (Or.inl ⟨by rfl, fun wz _ => by go_simp⟩) hS ?_
        simp only [Act.put, List.setIfInBounds_toArray, List.set_cons_zero, List.set_cons_succ]
        refine wpAnyH_take (i := 18) (oi := { dst := some 97, op := Op.move (Operand.tmp 96), type := 4, pos := "laws.go:309", after := #[{ on := 17, ground := Ground.data }, { on := 13, ground := Ground.chain }], guard := none }) (v := .bool false) rfl (by kernel_rfl) (by kernel_rfl) (by kernel_rfl) (fun _ _ _ h => h) (Or.inl ⟨by rfl, fun wz _ => by go_simp⟩) hS ?_
        simp only [Act.put, List.setIfInBounds_toArray, List.set_cons_zero, List.set_cons_succ]
        refine wpAnyH_take (i := 19) (oi := { dst := some 98, op := Op.load 25 (Operand.tmp 15), type := 25, pos := "laws.go:309", after := #[{ on := 18, ground := Ground.guard }], guard := some (18, false) }) (v := rv h1 h2) rfl (by kernel_rfl) (by kernel_rfl) (by kernel_rfl) (fun _ _ _ h => h) (Or.inl ⟨by rfl, fun wz hz => by have hq := RD wz hz; clear RD; go_simp⟩) hS ?_
        simp only [Act.put, List.setIfInBounds_toArray, List.set_cons_zero, List.set_cons_succ]
        refine wpAnyH_take (i := 20) (oi := { dst := some 99, op := Op.load 25 (Operand.tmp 13), type := 25, pos := "laws.go:309", after := #[{ on := 18, ground := Ground.guard }], guard := some (18, false) }) (v := rv t1 t2) rfl (by kernel_rfl) (by kernel_rfl) (by kernel_rfl) (fun _ _ _ h => h) (Or.inl ⟨by rfl, fun wz hz => by have hq := RD wz hz; clear RD; go_simp⟩) hS ?_
        simp only [Act.put, List.setIfInBounds_toArray, List.set_cons_zero, List.set_cons_succ]
        refine wpAnyH_take (i := 21) (oi := { dst := some 100, op := Op.move (Operand.tmp 14), type := 3, pos := "laws.go:309", after := #[{ on := 18, ground := Ground.guard }], guard := some (18, false) }) (v := .int .i64 n) rfl (by kernel_rfl) (by kernel_rfl) (by kernel_rfl) (fun _ _ _ h => h) (Or.inl ⟨by rfl, fun wz _ => by go_simp⟩) hS ?_
        simp only [Act.put, List.setIfInBounds_toArray, List.set_cons_zero, List.set_cons_succ]
        refine wpAnyH_ready (rs := [22]) (by kernel_rfl) (by simp) ?_
        refine AllReadyH.cons (o := { dst := some 101, op := Op.call { callee := Callee.value (Operand.func 15), args := #[Operand.tmp 99, Operand.tmp 100], argTypes := #[25, 3] }, type := 25, pos := "laws.go:309", after := #[{ on := 20, ground := Ground.data }, { on := 21, ground := Ground.data }, { on := 18, ground := Ground.chain }, { on := 18, ground := Ground.guard }], guard := some (18, false) }) rfl (fun K hK => ?_) AllReadyH.nil
        go_simp
        refine (unhide HSShare _).mono ?_
        rintro e wt ⟨rfl, hb⟩
        have SA := hide (KV.call hS hb)
        clear hb hS
        go_wp2_with fail
        refine hK.out _ _ (unhide SA) (fun hS => ?_)
        clear hK K SA
        refine wpAnyH_take (i := 23) (oi := { dst := some 102, op := Op.binOp BinOp.neq 25 (Operand.tmp 98) (Operand.tmp 101) 25, type := 4, pos := "laws.go:309", after := #[{ on := 19, ground := Ground.data }, { on := 22, ground := Ground.data }, { on := 18, ground := Ground.guard }], guard := some (18, false) }) (v := .bool false) rfl (by kernel_rfl) (by kernel_rfl) (by kernel_rfl) (fun _ _ _ h => h) (Or.inl ⟨by rfl, fun wz _ => by go_simp⟩) hS ?_
        simp only [Act.put, List.setIfInBounds_toArray, List.set_cons_zero, List.set_cons_succ]
        refine wpAnyH_take (i := 24) (oi := { dst := some 103, op := Op.pick (Operand.tmp 97) (Operand.const (Value.bool true)) (Operand.tmp 102), type := 4, pos := "laws.go:309", after := #[{ on := 18, ground := Ground.data }, { on := 23, ground := Ground.data }], guard := none }) (v := .bool false) rfl (by kernel_rfl) (by kernel_rfl) (by kernel_rfl) (fun _ _ _ h => h) (Or.inl ⟨by rfl, fun wz _ => by go_simp⟩) hS ?_
        simp only [Act.put, List.setIfInBounds_toArray, List.set_cons_zero, List.set_cons_succ]
        refine wpAnyH_take (i := 25) (oi := { dst := some 104, op := Op.move (Operand.tmp 103), type := 4, pos := "laws.go:309", after := #[{ on := 24, ground := Ground.data }, { on := 22, ground := Ground.chain }], guard := none }) (v := .bool false) rfl (by kernel_rfl) (by kernel_rfl) (by kernel_rfl) (fun _ _ _ h => h) (Or.inl ⟨by rfl, fun wz _ => by go_simp⟩) hS ?_
        simp only [Act.put, List.setIfInBounds_toArray, List.set_cons_zero, List.set_cons_succ]
        refine wpAnyH_take (i := 26) (oi := { dst := some 105, op := Op.load 25 (Operand.tmp 17), type := 25, pos := "laws.go:309", after := #[{ on := 25, ground := Ground.guard }], guard := some (25, false) }) (v := rv x1 x2) rfl (by kernel_rfl) (by kernel_rfl) (by kernel_rfl) (fun _ _ _ h => h) (Or.inl ⟨by rfl, fun wz hz => by have hq := RD wz hz; clear RD; go_simp⟩) hS ?_
        simp only [Act.put, List.setIfInBounds_toArray, List.set_cons_zero, List.set_cons_succ]
        refine wpAnyH_take (i := 27) (oi := { dst := some 106, op := Op.load 25 (Operand.tmp 19), type := 25, pos := "laws.go:309", after := #[{ on := 25, ground := Ground.guard }], guard := some (25, false) }) (v := rv x1 x2) rfl (by kernel_rfl) (by kernel_rfl) (by kernel_rfl) (fun _ _ _ h => h) (Or.inl ⟨by rfl, fun wz hz => by have hq := RD wz hz; clear RD; go_simp⟩) hS ?_
        simp only [Act.put, List.setIfInBounds_toArray, List.set_cons_zero, List.set_cons_succ]
        refine wpAnyH_take (i := 28) (oi := { dst := some 107, op := Op.binOp BinOp.neq 25 (Operand.tmp 105) (Operand.tmp 106) 25, type := 4, pos := "laws.go:309", after := #[{ on := 26, ground := Ground.data }, { on := 27, ground := Ground.data }, { on := 25, ground := Ground.guard }], guard := some (25, false) }) (v := .bool false) rfl (by kernel_rfl) (by kernel_rfl) (by kernel_rfl) (fun _ _ _ h => h) (Or.inl ⟨by rfl, fun wz _ => by go_simp⟩) hS ?_
        simp only [Act.put, List.setIfInBounds_toArray, List.set_cons_zero, List.set_cons_succ]
        refine wpAnyH_take (i := 29) (oi := { dst := some 108, op := Op.pick (Operand.tmp 104) (Operand.const (Value.bool true)) (Operand.tmp 107), type := 4, pos := "laws.go:309", after := #[{ on := 25, ground := Ground.data }, { on := 28, ground := Ground.data }], guard := none }) (v := .bool false) rfl (by kernel_rfl) (by kernel_rfl) (by kernel_rfl) (fun _ _ _ h => h) (Or.inl ⟨by rfl, fun wz _ => by go_simp⟩) hS ?_
        simp only [Act.put, List.setIfInBounds_toArray, List.set_cons_zero, List.set_cons_succ]
        refine wpAnyH_take (i := 30) (oi := { dst := some 109, op := Op.move (Operand.tmp 108), type := 4, pos := "laws.go:309", after := #[{ on := 29, ground := Ground.data }, { on := 25, ground := Ground.chain }], guard := none }) (v := .bool false) rfl (by kernel_rfl) (by kernel_rfl) (by kernel_rfl) (fun _ _ _ h => h) (Or.inl ⟨by rfl, fun wz _ => by go_simp⟩) hS ?_
        simp only [Act.put, List.setIfInBounds_toArray, List.set_cons_zero, List.set_cons_succ]
        refine wpAnyH_take (i := 31) (oi := { dst := some 110, op := Op.move (Operand.tmp 18), type := 4, pos := "laws.go:309", after := #[{ on := 30, ground := Ground.guard }], guard := some (30, false) }) (v := .bool true) rfl (by kernel_rfl) (by kernel_rfl) (by kernel_rfl) (fun _ _ _ h => h) (Or.inl ⟨by rfl, fun wz _ => by go_simp⟩) hS ?_
        simp only [Act.put, List.setIfInBounds_toArray, List.set_cons_zero, List.set_cons_succ]
        refine wpAnyH_take (i := 32) (oi := { dst := some 111, op := Op.move (Operand.tmp 20), type := 4, pos := "laws.go:309", after := #[{ on := 30, ground := Ground.guard }], guard := some (30, false) }) (v := .bool true) rfl (by kernel_rfl) (by kernel_rfl) (by kernel_rfl) (fun _ _ _ h => h) (Or.inl ⟨by rfl, fun wz _ => by go_simp⟩) hS ?_
        simp only [Act.put, List.setIfInBounds_toArray, List.set_cons_zero, List.set_cons_succ]
        refine wpAnyH_take (i := 33) (oi := { dst := some 112, op := Op.binOp BinOp.neq 4 (Operand.tmp 110) (Operand.tmp 111) 4, type := 4, pos := "laws.go:309", after := #[{ on := 31, ground := Ground.data }, { on := 32, ground := Ground.data }, { on := 30, ground := Ground.guard }], guard := some (30, false) }) (v := .bool false) rfl (by kernel_rfl) (by kernel_rfl) (by kernel_rfl) (fun _ _ _ h => h) (Or.inl ⟨by rfl, fun wz _ => by go_simp⟩) hS ?_
        simp only [Act.put, List.setIfInBounds_toArray, List.set_cons_zero, List.set_cons_succ]
        refine wpAnyH_take (i := 34) (oi := { dst := some 113, op := Op.pick (Operand.tmp 109) (Operand.const (Value.bool true)) (Operand.tmp 112), type := 4, pos := "laws.go:309", after := #[{ on := 30, ground := Ground.data }, { on := 33, ground := Ground.data }], guard := none }) (v := .bool false) rfl (by kernel_rfl) (by kernel_rfl) (by kernel_rfl) (fun _ _ _ h => h) (Or.inl ⟨by rfl, fun wz _ => by go_simp⟩) hS ?_
        simp only [Act.put, List.setIfInBounds_toArray, List.set_cons_zero, List.set_cons_succ]
        refine wpAnyH_take (i := 35) (oi := { dst := some 114, op := Op.move (Operand.tmp 113), type := 4, pos := "laws.go:309", after := #[{ on := 34, ground := Ground.data }, { on := 30, ground := Ground.chain }], guard := none }) (v := .bool false) rfl (by kernel_rfl) (by kernel_rfl) (by kernel_rfl) (fun _ _ _ h => h) (Or.inl ⟨by rfl, fun wz _ => by go_simp⟩) hS ?_
        simp only [Act.put, List.setIfInBounds_toArray, List.set_cons_zero, List.set_cons_succ]
        refine wpAnyH_take (i := 36) (oi := { dst := some 115, op := Op.load 25 (Operand.tmp 3), type := 25, pos := "laws.go:309", after := #[{ on := 35, ground := Ground.guard }], guard := some (35, false) }) (v := rv a1 a2) rfl (by kernel_rfl) (by kernel_rfl) (by kernel_rfl) (fun _ _ _ h => h) (Or.inl ⟨by rfl, fun wz hz => by have hq := RD wz hz; clear RD; go_simp⟩) hS ?_
        simp only [Act.put, List.setIfInBounds_toArray, List.set_cons_zero, List.set_cons_succ]
        refine wpAnyH_take (i := 37) (oi := { dst := some 116, op := Op.load 25 (Operand.tmp 4), type := 25, pos := "laws.go:309", after := #[{ on := 35, ground := Ground.guard }], guard := some (35, false) }) (v := rv b1 b2) rfl (by kernel_rfl) (by kernel_rfl) (by kernel_rfl) (fun _ _ _ h => h) (Or.inl ⟨by rfl, fun wz hz => by have hq := RD wz hz; clear RD; go_simp⟩) hS ?_
        simp only [Act.put, List.setIfInBounds_toArray, List.set_cons_zero, List.set_cons_succ]
        refine wpAnyH_take (i := 39) (oi := { dst := some 118, op := Op.load 25 (Operand.tmp 3), type := 25, pos := "laws.go:309", after := #[{ on := 35, ground := Ground.guard }], guard := some (35, false) }) (v := rv a1 a2) rfl (by kernel_rfl) (by kernel_rfl) (by kernel_rfl) (fun _ _ _ h => h) (Or.inl ⟨by rfl, fun wz hz => by have hq := RD wz hz; clear RD; go_simp⟩) hS ?_
        simp only [Act.put, List.setIfInBounds_toArray, List.set_cons_zero, List.set_cons_succ]
        refine wpAnyH_take (i := 40) (oi := { dst := some 119, op := Op.load 25 (Operand.tmp 4), type := 25, pos := "laws.go:309", after := #[{ on := 35, ground := Ground.guard }], guard := some (35, false) }) (v := rv b1 b2) rfl (by kernel_rfl) (by kernel_rfl) (by kernel_rfl) (fun _ _ _ h => h) (Or.inl ⟨by rfl, fun wz hz => by have hq := RD wz hz; clear RD; go_simp⟩) hS ?_
        simp only [Act.put, List.setIfInBounds_toArray, List.set_cons_zero, List.set_cons_succ]
        refine wpAnyH_ready (rs := [38]) (by kernel_rfl) (by simp) ?_
        refine AllReadyH.cons (o := { dst := some 117, op := Op.call { callee := Callee.value (Operand.func 16), args := #[Operand.tmp 115, Operand.tmp 116], argTypes := #[25, 25] }, type := 4, pos := "laws.go:309", after := #[{ on := 36, ground := Ground.data }, { on := 37, ground := Ground.data }, { on := 35, ground := Ground.chain }, { on := 35, ground := Ground.guard }], guard := some (35, false) }) rfl (fun K hK => ?_) AllReadyH.nil
        go_simp
        refine (unhide HIW _).mono ?_
        rintro e wt ⟨rfl, hb⟩
        have SA := hide (KV.call hS hb)
        clear hb hS
        go_wp2_with fail
        refine hK.out _ _ (unhide SA) (fun hS => ?_)
        clear hK K SA
        refine wpAnyH_ready (rs := [41]) (by kernel_rfl) (by simp) ?_
        refine AllReadyH.cons (o := { dst := some 120, op := Op.call { callee := Callee.value (Operand.func 17), args := #[Operand.tmp 118, Operand.tmp 119], argTypes := #[25, 25] }, type := 4, pos := "laws.go:309", after := #[{ on := 39, ground := Ground.data }, { on := 40, ground := Ground.data }, { on := 38, ground := Ground.chain }, { on := 35, ground := Ground.guard }], guard := some (35, false) }) rfl (fun K hK => ?_) AllReadyH.nil
        go_simp
        refine (unhide HSW _).mono ?_
        rintro e wt ⟨rfl, hb⟩
        have SA := hide (KV.call hS hb)
        clear hb hS
        go_wp2_with fail
        refine hK.out _ _ (unhide SA) (fun hS => ?_)
        clear hK K SA
        refine wpAnyH_take (i := 42) (oi := { dst := some 121, op := Op.binOp BinOp.neq 4 (Operand.tmp 117) (Operand.tmp 120) 4, type := 4, pos := "laws.go:309", after := #[{ on := 38, ground := Ground.data }, { on := 41, ground := Ground.data }, { on := 35, ground := Ground.guard }], guard := some (35, false) }) (v := .bool false) rfl (by kernel_rfl) (by kernel_rfl) (by kernel_rfl) (fun _ _ _ h => h) (Or.inl ⟨by rfl, fun wz _ => by go_simp⟩) hS ?_
        simp only [Act.put, List.setIfInBounds_toArray, List.set_cons_zero, List.set_cons_succ]
        refine wpAnyH_take (i := 43) (oi := { dst := some 122, op := Op.pick (Operand.tmp 114) (Operand.const (Value.bool true)) (Operand.tmp 121), type := 4, pos := "laws.go:309", after := #[{ on := 35, ground := Ground.data }, { on := 42, ground := Ground.data }], guard := none }) (v := .bool false) rfl (by kernel_rfl) (by kernel_rfl) (by kernel_rfl) (fun _ _ _ h => h) (Or.inl ⟨by rfl, fun wz _ => by go_simp⟩) hS ?_
        simp only [Act.put, List.setIfInBounds_toArray, List.set_cons_zero, List.set_cons_succ]
        refine wpAnyH_take (i := 44) (oi := { dst := some 123, op := Op.move (Operand.tmp 122), type := 4, pos := "laws.go:309", after := #[{ on := 43, ground := Ground.data }, { on := 41, ground := Ground.chain }], guard := none }) (v := .bool false) rfl (by kernel_rfl) (by kernel_rfl) (by kernel_rfl) (fun _ _ _ h => h) (Or.inl ⟨by rfl, fun wz _ => by go_simp⟩) hS ?_
        simp only [Act.put, List.setIfInBounds_toArray, List.set_cons_zero, List.set_cons_succ]
        refine wpAnyH_take (i := 45) (oi := { dst := some 124, op := Op.load 25 (Operand.tmp 3), type := 25, pos := "laws.go:309", after := #[{ on := 44, ground := Ground.guard }], guard := some (44, false) }) (v := rv a1 a2) rfl (by kernel_rfl) (by kernel_rfl) (by kernel_rfl) (fun _ _ _ h => h) (Or.inl ⟨by rfl, fun wz hz => by have hq := RD wz hz; clear RD; go_simp⟩) hS ?_
        simp only [Act.put, List.setIfInBounds_toArray, List.set_cons_zero, List.set_cons_succ]
        refine wpAnyH_take (i := 46) (oi := { dst := some 125, op := Op.load 25 (Operand.tmp 4), type := 25, pos := "laws.go:309", after := #[{ on := 44, ground := Ground.guard }], guard := some (44, false) }) (v := rv b1 b2) rfl (by kernel_rfl) (by kernel_rfl) (by kernel_rfl) (fun _ _ _ h => h) (Or.inl ⟨by rfl, fun wz hz => by have hq := RD wz hz; clear RD; go_simp⟩) hS ?_
        simp only [Act.put, List.setIfInBounds_toArray, List.set_cons_zero, List.set_cons_succ]
        refine wpAnyH_take (i := 48) (oi := { dst := some 127, op := Op.load 25 (Operand.tmp 3), type := 25, pos := "laws.go:309", after := #[{ on := 44, ground := Ground.guard }], guard := some (44, false) }) (v := rv a1 a2) rfl (by kernel_rfl) (by kernel_rfl) (by kernel_rfl) (fun _ _ _ h => h) (Or.inl ⟨by rfl, fun wz hz => by have hq := RD wz hz; clear RD; go_simp⟩) hS ?_
        simp only [Act.put, List.setIfInBounds_toArray, List.set_cons_zero, List.set_cons_succ]
        refine wpAnyH_take (i := 49) (oi := { dst := some 128, op := Op.load 25 (Operand.tmp 4), type := 25, pos := "laws.go:309", after := #[{ on := 44, ground := Ground.guard }], guard := some (44, false) }) (v := rv b1 b2) rfl (by kernel_rfl) (by kernel_rfl) (by kernel_rfl) (fun _ _ _ h => h) (Or.inl ⟨by rfl, fun wz hz => by have hq := RD wz hz; clear RD; go_simp⟩) hS ?_
        simp only [Act.put, List.setIfInBounds_toArray, List.set_cons_zero, List.set_cons_succ]
        refine wpAnyH_ready (rs := [47]) (by kernel_rfl) (by simp) ?_
        refine AllReadyH.cons (o := { dst := some 126, op := Op.call { callee := Callee.value (Operand.func 18), args := #[Operand.tmp 124, Operand.tmp 125], argTypes := #[25, 25] }, type := 3, pos := "laws.go:309", after := #[{ on := 45, ground := Ground.data }, { on := 46, ground := Ground.data }, { on := 44, ground := Ground.chain }, { on := 44, ground := Ground.guard }], guard := some (44, false) }) rfl (fun K hK => ?_) AllReadyH.nil
        go_simp
        refine (unhide HITm _).mono ?_
        rintro e wt ⟨rfl, hb⟩
        have SA := hide (KV.call hS hb)
        clear hb hS
        go_wp2_with fail
        refine hK.out _ _ (unhide SA) (fun hS => ?_)
        clear hK K SA
        refine wpAnyH_ready (rs := [50]) (by kernel_rfl) (by simp) ?_
        refine AllReadyH.cons (o := { dst := some 129, op := Op.call { callee := Callee.value (Operand.func 19), args := #[Operand.tmp 127, Operand.tmp 128], argTypes := #[25, 25] }, type := 3, pos := "laws.go:309", after := #[{ on := 48, ground := Ground.data }, { on := 49, ground := Ground.data }, { on := 47, ground := Ground.chain }, { on := 44, ground := Ground.guard }], guard := some (44, false) }) rfl (fun K hK => ?_) AllReadyH.nil
        go_simp
        refine (unhide HSTm _).mono ?_
        rintro e wt ⟨rfl, hb⟩
        have SA := hide (KV.call hS hb)
        clear hb hS
        go_wp2_with fail
        refine hK.out _ _ (unhide SA) (fun hS => ?_)
        clear hK K SA
        refine wpAnyH_take (i := 51) (oi := { dst := some 130, op := Op.binOp BinOp.neq 3 (Operand.tmp 126) (Operand.tmp 129) 3, type := 4, pos := "laws.go:309", after := #[{ on := 47, ground := Ground.data }, { on := 50, ground := Ground.data }, { on := 44, ground := Ground.guard }], guard := some (44, false) }) (v := .bool false) rfl (by kernel_rfl) (by kernel_rfl) (by kernel_rfl) (fun _ _ _ h => h) (Or.inl ⟨by rfl, fun wz _ => by go_simp⟩) hS ?_
        simp only [Act.put, List.setIfInBounds_toArray, List.set_cons_zero, List.set_cons_succ]
        refine wpAnyH_take (i := 52) (oi := { dst := some 131, op := Op.pick (Operand.tmp 123) (Operand.const (Value.bool true)) (Operand.tmp 130), type := 4, pos := "laws.go:309", after := #[{ on := 44, ground := Ground.data }, { on := 51, ground := Ground.data }], guard := none }) (v := .bool false) rfl (by kernel_rfl) (by kernel_rfl) (by kernel_rfl) (fun _ _ _ h => h) (Or.inl ⟨by rfl, fun wz _ => by go_simp⟩) hS ?_
        simp only [Act.put, List.setIfInBounds_toArray, List.set_cons_zero, List.set_cons_succ]
        refine wpAnyH_take (i := 53) (oi := { dst := some 132, op := Op.move (Operand.tmp 131), type := 4, pos := "laws.go:309", after := #[{ on := 52, ground := Ground.data }, { on := 50, ground := Ground.chain }], guard := none }) (v := .bool false) rfl (by kernel_rfl) (by kernel_rfl) (by kernel_rfl) (fun _ _ _ h => h) (Or.inl ⟨by rfl, fun wz _ => by go_simp⟩) hS ?_
        simp only [Act.put, List.setIfInBounds_toArray, List.set_cons_zero, List.set_cons_succ]
        refine wpAnyH_take (i := 54) (oi := { dst := some 133, op := Op.load 25 (Operand.tmp 3), type := 25, pos := "laws.go:309", after := #[{ on := 53, ground := Ground.guard }], guard := some (53, false) }) (v := rv a1 a2) rfl (by kernel_rfl) (by kernel_rfl) (by kernel_rfl) (fun _ _ _ h => h) (Or.inl ⟨by rfl, fun wz hz => by have hq := RD wz hz; clear RD; go_simp⟩) hS ?_
        simp only [Act.put, List.setIfInBounds_toArray, List.set_cons_zero, List.set_cons_succ]
        refine wpAnyH_take (i := 56) (oi := { dst := some 135, op := Op.load 25 (Operand.tmp 3), type := 25, pos := "laws.go:309", after := #[{ on := 53, ground := Ground.guard }], guard := some (53, false) }) (v := rv a1 a2) rfl (by kernel_rfl) (by kernel_rfl) (by kernel_rfl) (fun _ _ _ h => h) (Or.inl ⟨by rfl, fun wz hz => by have hq := RD wz hz; clear RD; go_simp⟩) hS ?_
        simp only [Act.put, List.setIfInBounds_toArray, List.set_cons_zero, List.set_cons_succ]
        refine wpAnyH_ready (rs := [55]) (by kernel_rfl) (by simp) ?_
        refine AllReadyH.cons (o := { dst := some 134, op := Op.call { callee := Callee.value (Operand.func 20), args := #[Operand.tmp 133], argTypes := #[25] }, type := 9, pos := "laws.go:309", after := #[{ on := 54, ground := Ground.data }, { on := 53, ground := Ground.chain }, { on := 53, ground := Ground.guard }], guard := some (53, false) }) rfl (fun K hK => ?_) AllReadyH.nil
        go_simp
        refine (unhide HITa _ (KV.bel hS)).mono ?_
        rintro e wt ⟨rfl, hb⟩
        have SA := hide (KV.call hS hb)
        clear hb hS
        go_wp2_with fail
        refine hK.out _ _ (unhide SA) (fun hS => ?_)
        clear hK K SA
        refine wpAnyH_ready (rs := [57]) (by kernel_rfl) (by simp) ?_
        refine AllReadyH.cons (o := { dst := some 136, op := Op.call { callee := Callee.value (Operand.func 21), args := #[Operand.tmp 135], argTypes := #[25] }, type := 9, pos := "laws.go:309", after := #[{ on := 56, ground := Ground.data }, { on := 55, ground := Ground.chain }, { on := 53, ground := Ground.guard }], guard := some (53, false) }) rfl (fun K hK => ?_) AllReadyH.nil
        go_simp
        refine (unhide HSTa _).mono ?_
        rintro e wt ⟨rfl, hb⟩
        have SA := hide (KV.call hS hb)
        clear hb hS
        go_wp2_with fail
        refine hK.out _ _ (unhide SA) (fun hS => ?_)
        clear hK K SA
        refine wpAnyH_take (i := 58) (oi := { dst := some 137, op := Op.binOp BinOp.neq 9 (Operand.tmp 134) (Operand.tmp 136) 9, type := 4, pos := "laws.go:309", after := #[{ on := 55, ground := Ground.data }, { on := 57, ground := Ground.data }, { on := 53, ground := Ground.guard }], guard := some (53, false) }) (v := .bool false) rfl (by kernel_rfl) (by kernel_rfl) (by kernel_rfl) (fun _ _ _ h => h) (Or.inl ⟨by rfl, fun wz _ => by go_simp⟩) hS ?_
        simp only [Act.put, List.setIfInBounds_toArray, List.set_cons_zero, List.set_cons_succ]
        refine wpAnyH_take (i := 59) (oi := { dst := some 138, op := Op.pick (Operand.tmp 132) (Operand.const (Value.bool true)) (Operand.tmp 137), type := 4, pos := "laws.go:309", after := #[{ on := 53, ground := Ground.data }, { on := 58, ground := Ground.data }], guard := none }) (v := .bool false) rfl (by kernel_rfl) (by kernel_rfl) (by kernel_rfl) (fun _ _ _ h => h) (Or.inl ⟨by rfl, fun wz _ => by go_simp⟩) hS ?_
        simp only [Act.put, List.setIfInBounds_toArray, List.set_cons_zero, List.set_cons_succ]
        refine wpAnyH_take (i := 60) (oi := { dst := some 139, op := Op.move (Operand.tmp 138), type := 4, pos := "laws.go:309", after := #[{ on := 59, ground := Ground.data }, { on := 57, ground := Ground.chain }], guard := none }) (v := .bool false) rfl (by kernel_rfl) (by kernel_rfl) (by kernel_rfl) (fun _ _ _ h => h) (Or.inl ⟨by rfl, fun wz _ => by go_simp⟩) hS ?_
        simp only [Act.put, List.setIfInBounds_toArray, List.set_cons_zero, List.set_cons_succ]
        refine wpAnyH_take (i := 61) (oi := { dst := some 140, op := Op.load 25 (Operand.tmp 3), type := 25, pos := "laws.go:309", after := #[{ on := 60, ground := Ground.guard }], guard := some (60, false) }) (v := rv a1 a2) rfl (by kernel_rfl) (by kernel_rfl) (by kernel_rfl) (fun _ _ _ h => h) (Or.inl ⟨by rfl, fun wz hz => by have hq := RD wz hz; clear RD; go_simp⟩) hS ?_
        simp only [Act.put, List.setIfInBounds_toArray, List.set_cons_zero, List.set_cons_succ]
        refine wpAnyH_take (i := 63) (oi := { dst := some 142, op := Op.load 25 (Operand.tmp 3), type := 25, pos := "laws.go:309", after := #[{ on := 60, ground := Ground.guard }], guard := some (60, false) }) (v := rv a1 a2) rfl (by kernel_rfl) (by kernel_rfl) (by kernel_rfl) (fun _ _ _ h => h) (Or.inl ⟨by rfl, fun wz hz => by have hq := RD wz hz; clear RD; go_simp⟩) hS ?_
        simp only [Act.put, List.setIfInBounds_toArray, List.set_cons_zero, List.set_cons_succ]
        refine wpAnyH_ready (rs := [62]) (by kernel_rfl) (by simp) ?_
        refine AllReadyH.cons (o := { dst := some 141, op := Op.call { callee := Callee.value (Operand.func 22), args := #[Operand.tmp 140], argTypes := #[25] }, type := 4, pos := "laws.go:309", after := #[{ on := 61, ground := Ground.data }, { on := 60, ground := Ground.chain }, { on := 60, ground := Ground.guard }], guard := some (60, false) }) rfl (fun K hK => ?_) AllReadyH.nil
        go_simp
        refine (unhide HIK _).mono ?_
        rintro e wt ⟨rfl, hb⟩
        have SA := hide (KV.call hS hb)
        clear hb hS
        go_wp2_with fail
        refine hK.out _ _ (unhide SA) (fun hS => ?_)
        clear hK K SA
        refine wpAnyH_ready (rs := [64]) (by kernel_rfl) (by simp) ?_
        refine AllReadyH.cons (o := { dst := some 143, op := Op.call { callee := Callee.value (Operand.func 23), args := #[Operand.tmp 142], argTypes := #[25] }, type := 4, pos := "laws.go:309", after := #[{ on := 63, ground := Ground.data }, { on := 62, ground := Ground.chain }, { on := 60, ground := Ground.guard }], guard := some (60, false) }) rfl (fun K hK => ?_) AllReadyH.nil
        go_simp
        refine (unhide HSK _).mono ?_
        rintro e wt ⟨rfl, hb⟩
        have SA := hide (KV.call hS hb)
        clear hb hS
        go_wp2_with fail
        refine hK.out _ _ (unhide SA) (fun hS => ?_)
        clear hK K SA
        refine wpAnyH_take (i := 65) (oi := { dst := some 144, op := Op.binOp BinOp.neq 4 (Operand.tmp 141) (Operand.tmp 143) 4, type := 4, pos := "laws.go:309", after := #[{ on := 62, ground := Ground.data }, { on := 64, ground := Ground.data }, { on := 60, ground := Ground.guard }], guard := some (60, false) }) (v := .bool false) rfl (by kernel_rfl) (by kernel_rfl) (by kernel_rfl) (fun _ _ _ h => h) (Or.inl ⟨by rfl, fun wz _ => by go_simp⟩) hS ?_
        simp only [Act.put, List.setIfInBounds_toArray, List.set_cons_zero, List.set_cons_succ]
        refine wpAnyH_take (i := 66) (oi := { dst := some 145, op := Op.pick (Operand.tmp 139) (Operand.const (Value.bool true)) (Operand.tmp 144), type := 4, pos := "laws.go:309", after := #[{ on := 60, ground := Ground.data }, { on := 65, ground := Ground.data }], guard := none }) (v := .bool false) rfl (by kernel_rfl) (by kernel_rfl) (by kernel_rfl) (fun _ _ _ h => h) (Or.inl ⟨by rfl, fun wz _ => by go_simp⟩) hS ?_
        simp only [Act.put, List.setIfInBounds_toArray, List.set_cons_zero, List.set_cons_succ]
        refine wpAnyH_take (i := 67) (oi := { dst := some 146, op := Op.move (Operand.tmp 145), type := 4, pos := "laws.go:309", after := #[{ on := 66, ground := Ground.data }, { on := 64, ground := Ground.chain }], guard := none }) (v := .bool false) rfl (by kernel_rfl) (by kernel_rfl) (by kernel_rfl) (fun _ _ _ h => h) (Or.inl ⟨by rfl, fun wz _ => by go_simp⟩) hS ?_
        simp only [Act.put, List.setIfInBounds_toArray, List.set_cons_zero, List.set_cons_succ]
        refine wpAnyH_take (i := 68) (oi := { dst := some 147, op := Op.move (Operand.tmp 18), type := 4, pos := "laws.go:309", after := #[{ on := 67, ground := Ground.guard }], guard := some (67, false) }) (v := .bool true) rfl (by kernel_rfl) (by kernel_rfl) (by kernel_rfl) (fun _ _ _ h => h) (Or.inl ⟨by rfl, fun wz _ => by go_simp⟩) hS ?_
        simp only [Act.put, List.setIfInBounds_toArray, List.set_cons_zero, List.set_cons_succ]
        refine wpAnyH_take (i := 69) (oi := { dst := some 148, op := Op.move (Operand.tmp 147), type := 4, pos := "laws.go:309", after := #[{ on := 68, ground := Ground.data }, { on := 67, ground := Ground.chain }, { on := 67, ground := Ground.guard }], guard := some (67, false) }) (v := .bool true) rfl (by kernel_rfl) (by kernel_rfl) (by kernel_rfl) (fun _ _ _ h => h) (Or.inl ⟨by rfl, fun wz _ => by go_simp⟩) hS ?_
        simp only [Act.put, List.setIfInBounds_toArray, List.set_cons_zero, List.set_cons_succ]
        refine wpAnyH_take (i := 70) (oi := { dst := some 149, op := Op.load 25 (Operand.tmp 17), type := 25, pos := "laws.go:309", after := #[{ on := 69, ground := Ground.guard }], guard := some (69, true) }) (v := rv x1 x2) rfl (by kernel_rfl) (by kernel_rfl) (by kernel_rfl) (fun _ _ _ h => h) (Or.inl ⟨by rfl, fun wz hz => by have hq := RD wz hz; clear RD; go_simp⟩) hS ?_
        simp only [Act.put, List.setIfInBounds_toArray, List.set_cons_zero, List.set_cons_succ]
        refine wpAnyH_take (i := 72) (oi := { dst := some 151, op := Op.move (Operand.tmp 16), type := 9, pos := "laws.go:309", after := #[{ on := 69, ground := Ground.guard }], guard := some (69, true) }) (v := .string u) rfl (by kernel_rfl) (by kernel_rfl) (by kernel_rfl) (fun _ _ _ h => h) (Or.inl ⟨by rfl, fun wz _ => by go_simp⟩) hS ?_
        simp only [Act.put, List.setIfInBounds_toArray, List.set_cons_zero, List.set_cons_succ]
        refine wpAnyH_ready (rs := [71]) (by kernel_rfl) (by simp) ?_
        refine AllReadyH.cons (o := { dst := some 150, op := Op.call { callee := Callee.value (Operand.func 20), args := #[Operand.tmp 149], argTypes := #[25] }, type := 9, pos := "laws.go:309", after := #[{ on := 70, ground := Ground.data }, { on := 69, ground := Ground.chain }, { on := 69, ground := Ground.guard }], guard := some (69, true) }) rfl (fun K hK => ?_) AllReadyH.nil
        go_simp
        refine (unhide HITx _ (KV.bel hS)).mono ?_
        rintro e wt ⟨rfl, hb⟩
        have SA := hide (KV.call hS hb)
        clear hb hS
        go_wp2_with fail
        refine hK.out _ _ (unhide SA) (fun hS => ?_)
        clear hK K SA
        refine wpAnyH_take (i := 73) (oi := { dst := some 152, op := Op.binOp BinOp.neq 9 (Operand.tmp 150) (Operand.tmp 151) 9, type := 4, pos := "laws.go:309", after := #[{ on := 71, ground := Ground.data }, { on := 72, ground := Ground.data }, { on := 69, ground := Ground.guard }], guard := some (69, true) }) (v := .bool false) rfl (by kernel_rfl) (by kernel_rfl) (by kernel_rfl) (fun _ _ _ h => h) (Or.inl ⟨by rfl, fun wz _ => by go_simp⟩) hS ?_
        simp only [Act.put, List.setIfInBounds_toArray, List.set_cons_zero, List.set_cons_succ]
        refine wpAnyH_take (i := 74) (oi := { dst := some 153, op := Op.pick (Operand.tmp 148) (Operand.tmp 152) (Operand.const (Value.bool false)), type := 4, pos := "laws.go:309", after := #[{ on := 69, ground := Ground.data }, { on := 73, ground := Ground.data }, { on := 67, ground := Ground.guard }], guard := some (67, false) }) (v := .bool false) rfl (by kernel_rfl) (by kernel_rfl) (by kernel_rfl) (fun _ _ _ h => h) (Or.inl ⟨by rfl, fun wz _ => by go_simp⟩) hS ?_
        simp only [Act.put, List.setIfInBounds_toArray, List.set_cons_zero, List.set_cons_succ]
        refine wpAnyH_take (i := 75) (oi := { dst := some 154, op := Op.pick (Operand.tmp 146) (Operand.const (Value.bool true)) (Operand.tmp 153), type := 4, pos := "laws.go:309", after := #[{ on := 67, ground := Ground.data }, { on := 74, ground := Ground.data }], guard := none }) (v := .bool false) rfl (by kernel_rfl) (by kernel_rfl) (by kernel_rfl) (fun _ _ _ h => h) (Or.inl ⟨by rfl, fun wz _ => by go_simp⟩) hS ?_
        simp only [Act.put, List.setIfInBounds_toArray, List.set_cons_zero, List.set_cons_succ]
        refine wpAnyH_done (by kernel_rfl) ?_ _
        have KK := hide hS
        clear hS RD
        go_wp2_with fail
        go_meet
        exact ⟨rfl, unhide KK⟩
      | false =>
        refine wp_region_held_drew (S := fun wx => KV w [(w10.heap.size, x1, x2), (w9.heap.size, x1, x2), (w7.heap.size, h1, h2), (w6.heap.size, t1, t2), (w5.heap.size, d1, d2), (w4.heap.size, d1, d2), (w3.heap.size, s1, s2), (w2.heap.size, s1, s2), (w1.heap.size + 1, b1, b2), (w1.heap.size, a1, a2)] wx) (by kernel_rfl) (KV.drew (unhide K10)) (fun hS => ?_)
        refine wpAnyH_take (i := 0) (oi := { dst := some 79, op := Op.load 25 (Operand.tmp 5), type := 25, pos := "laws.go:309", after := #[], guard := none }) (v := rv s1 s2) rfl (by kernel_rfl) (by kernel_rfl) (by kernel_rfl) (fun _ _ _ h => h) (Or.inl ⟨by rfl, fun wz hz => by have hq := RD wz hz; clear RD; go_simp⟩) hS ?_
        simp only [Act.put, List.setIfInBounds_toArray, List.set_cons_zero, List.set_cons_succ]
        refine wpAnyH_take (i := 1) (oi := { dst := some 80, op := Op.load 25 (Operand.tmp 7), type := 25, pos := "laws.go:309", after := #[], guard := none }) (v := rv s1 s2) rfl (by kernel_rfl) (by kernel_rfl) (by kernel_rfl) (fun _ _ _ h => h) (Or.inl ⟨by rfl, fun wz hz => by have hq := RD wz hz; clear RD; go_simp⟩) hS ?_
        simp only [Act.put, List.setIfInBounds_toArray, List.set_cons_zero, List.set_cons_succ]
        refine wpAnyH_take (i := 2) (oi := { dst := some 81, op := Op.binOp BinOp.neq 25 (Operand.tmp 79) (Operand.tmp 80) 25, type := 4, pos := "laws.go:309", after := #[{ on := 0, ground := Ground.data }, { on := 1, ground := Ground.data }], guard := none }) (v := .bool false) rfl (by kernel_rfl) (by kernel_rfl) (by kernel_rfl) (fun _ _ _ h => h) (Or.inl ⟨by rfl, fun wz _ => by go_simp⟩) hS ?_
        simp only [Act.put, List.setIfInBounds_toArray, List.set_cons_zero, List.set_cons_succ]
        refine wpAnyH_take (i := 3) (oi := { dst := some 82, op := Op.move (Operand.tmp 81), type := 4, pos := "laws.go:309", after := #[{ on := 2, ground := Ground.data }], guard := none }) (v := .bool false) rfl (by kernel_rfl) (by kernel_rfl) (by kernel_rfl) (fun _ _ _ h => h) (Or.inl ⟨by rfl, fun wz _ => by go_simp⟩) hS ?_
        simp only [Act.put, List.setIfInBounds_toArray, List.set_cons_zero, List.set_cons_succ]
        refine wpAnyH_take (i := 4) (oi := { dst := some 83, op := Op.move (Operand.tmp 6), type := 4, pos := "laws.go:309", after := #[{ on := 3, ground := Ground.guard }], guard := some (3, false) }) (v := .bool ok) rfl (by kernel_rfl) (by kernel_rfl) (by kernel_rfl) (fun _ _ _ h => h) (Or.inl ⟨by rfl, fun wz _ => by go_simp⟩) hS ?_
        simp only [Act.put, List.setIfInBounds_toArray, List.set_cons_zero, List.set_cons_succ]
        refine wpAnyH_take (i := 5) (oi := { dst := some 84, op := Op.move (Operand.tmp 8), type := 4, pos := "laws.go:309", after := #[{ on := 3, ground := Ground.guard }], guard := some (3, false) }) (v := .bool ok) rfl (by kernel_rfl) (by kernel_rfl) (by kernel_rfl) (fun _ _ _ h => h) (Or.inl ⟨by rfl, fun wz _ => by go_simp⟩) hS ?_
        simp only [Act.put, List.setIfInBounds_toArray, List.set_cons_zero, List.set_cons_succ]
        refine wpAnyH_take (i := 6) (oi := { dst := some 85, op := Op.binOp BinOp.neq 4 (Operand.tmp 83) (Operand.tmp 84) 4, type := 4, pos := "laws.go:309", after := #[{ on := 4, ground := Ground.data }, { on := 5, ground := Ground.data }, { on := 3, ground := Ground.guard }], guard := some (3, false) }) (v := .bool false) rfl (by kernel_rfl) (by kernel_rfl) (by kernel_rfl) (fun _ _ _ h => h) (Or.inl ⟨by rfl, fun wz _ => by go_simp⟩) hS ?_
        simp only [Act.put, List.setIfInBounds_toArray, List.set_cons_zero, List.set_cons_succ]
        refine wpAnyH_take (i := 7) (oi := { dst := some 86, op := Op.pick (Operand.tmp 82) (Operand.const (Value.bool true)) (Operand.tmp 85), type := 4, pos := "laws.go:309", after := #[{ on := 3, ground := Ground.data }, { on := 6, ground := Ground.data }], guard := none }) (v := .bool false) rfl (by kernel_rfl) (by kernel_rfl) (by kernel_rfl) (fun _ _ _ h => h) (Or.inl ⟨by rfl, fun wz _ => by go_simp⟩) hS ?_
        simp only [Act.put, List.setIfInBounds_toArray, List.set_cons_zero, List.set_cons_succ]
        refine wpAnyH_take (i := 8) (oi := { dst := some 87, op := Op.move (Operand.tmp 86), type := 4, pos := "laws.go:309", after := #[{ on := 7, ground := Ground.data }, { on := 3, ground := Ground.chain }], guard := none }) (v := .bool false) rfl (by kernel_rfl) (by kernel_rfl) (by kernel_rfl) (fun _ _ _ h => h) (Or.inl ⟨by rfl, fun wz _ => by go_simp⟩) hS ?_
        simp only [Act.put, List.setIfInBounds_toArray, List.set_cons_zero, List.set_cons_succ]
        refine wpAnyH_take (i := 9) (oi := { dst := some 88, op := Op.load 25 (Operand.tmp 9), type := 25, pos := "laws.go:309", after := #[{ on := 8, ground := Ground.guard }], guard := some (8, false) }) (v := rv d1 d2) rfl (by kernel_rfl) (by kernel_rfl) (by kernel_rfl) (fun _ _ _ h => h) (Or.inl ⟨by rfl, fun wz hz => by have hq := RD wz hz; clear RD; go_simp⟩) hS ?_
        simp only [Act.put, List.setIfInBounds_toArray, List.set_cons_zero, List.set_cons_succ]
        refine wpAnyH_take (i := 10) (oi := { dst := some 89, op := Op.load 25 (Operand.tmp 11), type := 25, pos := "laws.go:309", after := #[{ on := 8, ground := Ground.guard }], guard := some (8, false) }) (v := rv d1 d2) rfl (by kernel_rfl) (by kernel_rfl) (by kernel_rfl) (fun _ _ _ h => h) (Or.inl ⟨by rfl, fun wz hz => by have hq := RD wz hz; clear RD; go_simp⟩) hS ?_
        simp only [Act.put, List.setIfInBounds_toArray, List.set_cons_zero, List.set_cons_succ]
        refine wpAnyH_take (i := 11) (oi := { dst := some 90, op := Op.binOp BinOp.neq 25 (Operand.tmp 88) (Operand.tmp 89) 25, type := 4, pos := "laws.go:309", after := #[{ on := 9, ground := Ground.data }, { on := 10, ground := Ground.data }, { on := 8, ground := Ground.guard }], guard := some (8, false) }) (v := .bool false) rfl (by kernel_rfl) (by kernel_rfl) (by kernel_rfl) (fun _ _ _ h => h) (Or.inl ⟨by rfl, fun wz _ => by go_simp⟩) hS ?_
        simp only [Act.put, List.setIfInBounds_toArray, List.set_cons_zero, List.set_cons_succ]
        refine wpAnyH_take (i := 12) (oi := { dst := some 91, op := Op.pick (Operand.tmp 87) (Operand.const (Value.bool true)) (Operand.tmp 90), type := 4, pos := "laws.go:309", after := #[{ on := 8, ground := Ground.data }, { on := 11, ground := Ground.data }], guard := none }) (v := .bool false) rfl (by kernel_rfl) (by kernel_rfl) (by kernel_rfl) (fun _ _ _ h => h) (Or.inl ⟨by rfl, fun wz _ => by go_simp⟩) hS ?_
        simp only [Act.put, List.setIfInBounds_toArray, List.set_cons_zero, List.set_cons_succ]
        refine wpAnyH_take (i := 13) (oi := { dst := some 92, op := Op.move (Operand.tmp 91), type := 4, pos := "laws.go:309", after := #[{ on := 12, ground := Ground.data }, { on := 8, ground := Ground.chain }], guard := none }) (v := .bool false) rfl (by kernel_rfl) (by kernel_rfl) (by kernel_rfl) (fun _ _ _ h => h) (Or.inl ⟨by rfl, fun wz _ => by go_simp⟩) hS ?_
        simp only [Act.put, List.setIfInBounds_toArray, List.set_cons_zero, List.set_cons_succ]
        refine wpAnyH_take (i := 14) (oi := { dst := some 93, op := Op.move (Operand.tmp 10), type := 4, pos := "laws.go:309", after := #[{ on := 13, ground := Ground.guard }], guard := some (13, false) }) (v := .bool le) rfl (by kernel_rfl) (by kernel_rfl) (by kernel_rfl) (fun _ _ _ h => h) (Or.inl ⟨by rfl, fun wz _ => by go_simp⟩) hS ?_
        simp only [Act.put, List.setIfInBounds_toArray, List.set_cons_zero, List.set_cons_succ]
        refine wpAnyH_take (i := 15) (oi := { dst := some 94, op := Op.move (Operand.tmp 12), type := 4, pos := "laws.go:309", after := #[{ on := 13, ground := Ground.guard }], guard := some (13, false) }) (v := .bool le) rfl (by kernel_rfl) (by kernel_rfl) (by kernel_rfl) (fun _ _ _ h => h) (Or.inl ⟨by rfl, fun wz _ => by go_simp⟩) hS ?_
        simp only [Act.put, List.setIfInBounds_toArray, List.set_cons_zero, List.set_cons_succ]
        refine wpAnyH_take (i := 16) (oi := { dst := some 95, op := Op.binOp BinOp.neq 4 (Operand.tmp 93) (Operand.tmp 94) 4, type := 4, pos := "laws.go:309", after := #[{ on := 14, ground := Ground.data }, { on := 15, ground := Ground.data }, { on := 13, ground := Ground.guard }], guard := some (13, false) }) (v := .bool false) rfl (by kernel_rfl) (by kernel_rfl) (by kernel_rfl) (fun _ _ _ h => h) (Or.inl ⟨by rfl, fun wz _ => by go_simp⟩) hS ?_
        simp only [Act.put, List.setIfInBounds_toArray, List.set_cons_zero, List.set_cons_succ]
        refine wpAnyH_take (i := 17) (oi := { dst := some 96, op := Op.pick (Operand.tmp 92) (Operand.const (Value.bool true)) (Operand.tmp 95), type := 4, pos := "laws.go:309", after := #[{ on := 13, ground := Ground.data }, { on := 16, ground := Ground.data }], guard := none }) (v := .bool false) rfl (by kernel_rfl) (by kernel_rfl) (by kernel_rfl) (fun _ _ _ h => h) (Or.inl ⟨by rfl, fun wz _ => by go_simp⟩) hS ?_
        simp only [Act.put, List.setIfInBounds_toArray, List.set_cons_zero, List.set_cons_succ]
        refine wpAnyH_take (i := 18) (oi := { dst := some 97, op := Op.move (Operand.tmp 96), type := 4, pos := "laws.go:309", after := #[{ on := 17, ground := Ground.data }, { on := 13, ground := Ground.chain }], guard := none }) (v := .bool false) rfl (by kernel_rfl) (by kernel_rfl) (by kernel_rfl) (fun _ _ _ h => h) (Or.inl ⟨by rfl, fun wz _ => by go_simp⟩) hS ?_
        simp only [Act.put, List.setIfInBounds_toArray, List.set_cons_zero, List.set_cons_succ]
        refine wpAnyH_take (i := 19) (oi := { dst := some 98, op := Op.load 25 (Operand.tmp 15), type := 25, pos := "laws.go:309", after := #[{ on := 18, ground := Ground.guard }], guard := some (18, false) }) (v := rv h1 h2) rfl (by kernel_rfl) (by kernel_rfl) (by kernel_rfl) (fun _ _ _ h => h) (Or.inl ⟨by rfl, fun wz hz => by have hq := RD wz hz; clear RD; go_simp⟩) hS ?_
        simp only [Act.put, List.setIfInBounds_toArray, List.set_cons_zero, List.set_cons_succ]
        refine wpAnyH_take (i := 20) (oi := { dst := some 99, op := Op.load 25 (Operand.tmp 13), type := 25, pos := "laws.go:309", after := #[{ on := 18, ground := Ground.guard }], guard := some (18, false) }) (v := rv t1 t2) rfl (by kernel_rfl) (by kernel_rfl) (by kernel_rfl) (fun _ _ _ h => h) (Or.inl ⟨by rfl, fun wz hz => by have hq := RD wz hz; clear RD; go_simp⟩) hS ?_
        simp only [Act.put, List.setIfInBounds_toArray, List.set_cons_zero, List.set_cons_succ]
        refine wpAnyH_take (i := 21) (oi := { dst := some 100, op := Op.move (Operand.tmp 14), type := 3, pos := "laws.go:309", after := #[{ on := 18, ground := Ground.guard }], guard := some (18, false) }) (v := .int .i64 n) rfl (by kernel_rfl) (by kernel_rfl) (by kernel_rfl) (fun _ _ _ h => h) (Or.inl ⟨by rfl, fun wz _ => by go_simp⟩) hS ?_
        simp only [Act.put, List.setIfInBounds_toArray, List.set_cons_zero, List.set_cons_succ]
        refine wpAnyH_ready (rs := [22]) (by kernel_rfl) (by simp) ?_
        refine AllReadyH.cons (o := { dst := some 101, op := Op.call { callee := Callee.value (Operand.func 15), args := #[Operand.tmp 99, Operand.tmp 100], argTypes := #[25, 3] }, type := 25, pos := "laws.go:309", after := #[{ on := 20, ground := Ground.data }, { on := 21, ground := Ground.data }, { on := 18, ground := Ground.chain }, { on := 18, ground := Ground.guard }], guard := some (18, false) }) rfl (fun K hK => ?_) AllReadyH.nil
        go_simp
        refine (unhide HSShare _).mono ?_
        rintro e wt ⟨rfl, hb⟩
        have SA := hide (KV.call hS hb)
        clear hb hS
        go_wp2_with fail
        refine hK.out _ _ (unhide SA) (fun hS => ?_)
        clear hK K SA
        refine wpAnyH_take (i := 23) (oi := { dst := some 102, op := Op.binOp BinOp.neq 25 (Operand.tmp 98) (Operand.tmp 101) 25, type := 4, pos := "laws.go:309", after := #[{ on := 19, ground := Ground.data }, { on := 22, ground := Ground.data }, { on := 18, ground := Ground.guard }], guard := some (18, false) }) (v := .bool false) rfl (by kernel_rfl) (by kernel_rfl) (by kernel_rfl) (fun _ _ _ h => h) (Or.inl ⟨by rfl, fun wz _ => by go_simp⟩) hS ?_
        simp only [Act.put, List.setIfInBounds_toArray, List.set_cons_zero, List.set_cons_succ]
        refine wpAnyH_take (i := 24) (oi := { dst := some 103, op := Op.pick (Operand.tmp 97) (Operand.const (Value.bool true)) (Operand.tmp 102), type := 4, pos := "laws.go:309", after := #[{ on := 18, ground := Ground.data }, { on := 23, ground := Ground.data }], guard := none }) (v := .bool false) rfl (by kernel_rfl) (by kernel_rfl) (by kernel_rfl) (fun _ _ _ h => h) (Or.inl ⟨by rfl, fun wz _ => by go_simp⟩) hS ?_
        simp only [Act.put, List.setIfInBounds_toArray, List.set_cons_zero, List.set_cons_succ]
        refine wpAnyH_take (i := 25) (oi := { dst := some 104, op := Op.move (Operand.tmp 103), type := 4, pos := "laws.go:309", after := #[{ on := 24, ground := Ground.data }, { on := 22, ground := Ground.chain }], guard := none }) (v := .bool false) rfl (by kernel_rfl) (by kernel_rfl) (by kernel_rfl) (fun _ _ _ h => h) (Or.inl ⟨by rfl, fun wz _ => by go_simp⟩) hS ?_
        simp only [Act.put, List.setIfInBounds_toArray, List.set_cons_zero, List.set_cons_succ]
        refine wpAnyH_take (i := 26) (oi := { dst := some 105, op := Op.load 25 (Operand.tmp 17), type := 25, pos := "laws.go:309", after := #[{ on := 25, ground := Ground.guard }], guard := some (25, false) }) (v := rv x1 x2) rfl (by kernel_rfl) (by kernel_rfl) (by kernel_rfl) (fun _ _ _ h => h) (Or.inl ⟨by rfl, fun wz hz => by have hq := RD wz hz; clear RD; go_simp⟩) hS ?_
        simp only [Act.put, List.setIfInBounds_toArray, List.set_cons_zero, List.set_cons_succ]
        refine wpAnyH_take (i := 27) (oi := { dst := some 106, op := Op.load 25 (Operand.tmp 19), type := 25, pos := "laws.go:309", after := #[{ on := 25, ground := Ground.guard }], guard := some (25, false) }) (v := rv x1 x2) rfl (by kernel_rfl) (by kernel_rfl) (by kernel_rfl) (fun _ _ _ h => h) (Or.inl ⟨by rfl, fun wz hz => by have hq := RD wz hz; clear RD; go_simp⟩) hS ?_
        simp only [Act.put, List.setIfInBounds_toArray, List.set_cons_zero, List.set_cons_succ]
        refine wpAnyH_take (i := 28) (oi := { dst := some 107, op := Op.binOp BinOp.neq 25 (Operand.tmp 105) (Operand.tmp 106) 25, type := 4, pos := "laws.go:309", after := #[{ on := 26, ground := Ground.data }, { on := 27, ground := Ground.data }, { on := 25, ground := Ground.guard }], guard := some (25, false) }) (v := .bool false) rfl (by kernel_rfl) (by kernel_rfl) (by kernel_rfl) (fun _ _ _ h => h) (Or.inl ⟨by rfl, fun wz _ => by go_simp⟩) hS ?_
        simp only [Act.put, List.setIfInBounds_toArray, List.set_cons_zero, List.set_cons_succ]
        refine wpAnyH_take (i := 29) (oi := { dst := some 108, op := Op.pick (Operand.tmp 104) (Operand.const (Value.bool true)) (Operand.tmp 107), type := 4, pos := "laws.go:309", after := #[{ on := 25, ground := Ground.data }, { on := 28, ground := Ground.data }], guard := none }) (v := .bool false) rfl (by kernel_rfl) (by kernel_rfl) (by kernel_rfl) (fun _ _ _ h => h) (Or.inl ⟨by rfl, fun wz _ => by go_simp⟩) hS ?_
        simp only [Act.put, List.setIfInBounds_toArray, List.set_cons_zero, List.set_cons_succ]
        refine wpAnyH_take (i := 30) (oi := { dst := some 109, op := Op.move (Operand.tmp 108), type := 4, pos := "laws.go:309", after := #[{ on := 29, ground := Ground.data }, { on := 25, ground := Ground.chain }], guard := none }) (v := .bool false) rfl (by kernel_rfl) (by kernel_rfl) (by kernel_rfl) (fun _ _ _ h => h) (Or.inl ⟨by rfl, fun wz _ => by go_simp⟩) hS ?_
        simp only [Act.put, List.setIfInBounds_toArray, List.set_cons_zero, List.set_cons_succ]
        refine wpAnyH_take (i := 31) (oi := { dst := some 110, op := Op.move (Operand.tmp 18), type := 4, pos := "laws.go:309", after := #[{ on := 30, ground := Ground.guard }], guard := some (30, false) }) (v := .bool false) rfl (by kernel_rfl) (by kernel_rfl) (by kernel_rfl) (fun _ _ _ h => h) (Or.inl ⟨by rfl, fun wz _ => by go_simp⟩) hS ?_
        simp only [Act.put, List.setIfInBounds_toArray, List.set_cons_zero, List.set_cons_succ]
        refine wpAnyH_take (i := 32) (oi := { dst := some 111, op := Op.move (Operand.tmp 20), type := 4, pos := "laws.go:309", after := #[{ on := 30, ground := Ground.guard }], guard := some (30, false) }) (v := .bool false) rfl (by kernel_rfl) (by kernel_rfl) (by kernel_rfl) (fun _ _ _ h => h) (Or.inl ⟨by rfl, fun wz _ => by go_simp⟩) hS ?_
        simp only [Act.put, List.setIfInBounds_toArray, List.set_cons_zero, List.set_cons_succ]
        refine wpAnyH_take (i := 33) (oi := { dst := some 112, op := Op.binOp BinOp.neq 4 (Operand.tmp 110) (Operand.tmp 111) 4, type := 4, pos := "laws.go:309", after := #[{ on := 31, ground := Ground.data }, { on := 32, ground := Ground.data }, { on := 30, ground := Ground.guard }], guard := some (30, false) }) (v := .bool false) rfl (by kernel_rfl) (by kernel_rfl) (by kernel_rfl) (fun _ _ _ h => h) (Or.inl ⟨by rfl, fun wz _ => by go_simp⟩) hS ?_
        simp only [Act.put, List.setIfInBounds_toArray, List.set_cons_zero, List.set_cons_succ]
        refine wpAnyH_take (i := 34) (oi := { dst := some 113, op := Op.pick (Operand.tmp 109) (Operand.const (Value.bool true)) (Operand.tmp 112), type := 4, pos := "laws.go:309", after := #[{ on := 30, ground := Ground.data }, { on := 33, ground := Ground.data }], guard := none }) (v := .bool false) rfl (by kernel_rfl) (by kernel_rfl) (by kernel_rfl) (fun _ _ _ h => h) (Or.inl ⟨by rfl, fun wz _ => by go_simp⟩) hS ?_
        simp only [Act.put, List.setIfInBounds_toArray, List.set_cons_zero, List.set_cons_succ]
        refine wpAnyH_take (i := 35) (oi := { dst := some 114, op := Op.move (Operand.tmp 113), type := 4, pos := "laws.go:309", after := #[{ on := 34, ground := Ground.data }, { on := 30, ground := Ground.chain }], guard := none }) (v := .bool false) rfl (by kernel_rfl) (by kernel_rfl) (by kernel_rfl) (fun _ _ _ h => h) (Or.inl ⟨by rfl, fun wz _ => by go_simp⟩) hS ?_
        simp only [Act.put, List.setIfInBounds_toArray, List.set_cons_zero, List.set_cons_succ]
        refine wpAnyH_take (i := 36) (oi := { dst := some 115, op := Op.load 25 (Operand.tmp 3), type := 25, pos := "laws.go:309", after := #[{ on := 35, ground := Ground.guard }], guard := some (35, false) }) (v := rv a1 a2) rfl (by kernel_rfl) (by kernel_rfl) (by kernel_rfl) (fun _ _ _ h => h) (Or.inl ⟨by rfl, fun wz hz => by have hq := RD wz hz; clear RD; go_simp⟩) hS ?_
        simp only [Act.put, List.setIfInBounds_toArray, List.set_cons_zero, List.set_cons_succ]
        refine wpAnyH_take (i := 37) (oi := { dst := some 116, op := Op.load 25 (Operand.tmp 4), type := 25, pos := "laws.go:309", after := #[{ on := 35, ground := Ground.guard }], guard := some (35, false) }) (v := rv b1 b2) rfl (by kernel_rfl) (by kernel_rfl) (by kernel_rfl) (fun _ _ _ h => h) (Or.inl ⟨by rfl, fun wz hz => by have hq := RD wz hz; clear RD; go_simp⟩) hS ?_
        simp only [Act.put, List.setIfInBounds_toArray, List.set_cons_zero, List.set_cons_succ]
        refine wpAnyH_take (i := 39) (oi := { dst := some 118, op := Op.load 25 (Operand.tmp 3), type := 25, pos := "laws.go:309", after := #[{ on := 35, ground := Ground.guard }], guard := some (35, false) }) (v := rv a1 a2) rfl (by kernel_rfl) (by kernel_rfl) (by kernel_rfl) (fun _ _ _ h => h) (Or.inl ⟨by rfl, fun wz hz => by have hq := RD wz hz; clear RD; go_simp⟩) hS ?_
        simp only [Act.put, List.setIfInBounds_toArray, List.set_cons_zero, List.set_cons_succ]
        refine wpAnyH_take (i := 40) (oi := { dst := some 119, op := Op.load 25 (Operand.tmp 4), type := 25, pos := "laws.go:309", after := #[{ on := 35, ground := Ground.guard }], guard := some (35, false) }) (v := rv b1 b2) rfl (by kernel_rfl) (by kernel_rfl) (by kernel_rfl) (fun _ _ _ h => h) (Or.inl ⟨by rfl, fun wz hz => by have hq := RD wz hz; clear RD; go_simp⟩) hS ?_
        simp only [Act.put, List.setIfInBounds_toArray, List.set_cons_zero, List.set_cons_succ]
        refine wpAnyH_ready (rs := [38]) (by kernel_rfl) (by simp) ?_
        refine AllReadyH.cons (o := { dst := some 117, op := Op.call { callee := Callee.value (Operand.func 16), args := #[Operand.tmp 115, Operand.tmp 116], argTypes := #[25, 25] }, type := 4, pos := "laws.go:309", after := #[{ on := 36, ground := Ground.data }, { on := 37, ground := Ground.data }, { on := 35, ground := Ground.chain }, { on := 35, ground := Ground.guard }], guard := some (35, false) }) rfl (fun K hK => ?_) AllReadyH.nil
        go_simp
        refine (unhide HIW _).mono ?_
        rintro e wt ⟨rfl, hb⟩
        have SA := hide (KV.call hS hb)
        clear hb hS
        go_wp2_with fail
        refine hK.out _ _ (unhide SA) (fun hS => ?_)
        clear hK K SA
        refine wpAnyH_ready (rs := [41]) (by kernel_rfl) (by simp) ?_
        refine AllReadyH.cons (o := { dst := some 120, op := Op.call { callee := Callee.value (Operand.func 17), args := #[Operand.tmp 118, Operand.tmp 119], argTypes := #[25, 25] }, type := 4, pos := "laws.go:309", after := #[{ on := 39, ground := Ground.data }, { on := 40, ground := Ground.data }, { on := 38, ground := Ground.chain }, { on := 35, ground := Ground.guard }], guard := some (35, false) }) rfl (fun K hK => ?_) AllReadyH.nil
        go_simp
        refine (unhide HSW _).mono ?_
        rintro e wt ⟨rfl, hb⟩
        have SA := hide (KV.call hS hb)
        clear hb hS
        go_wp2_with fail
        refine hK.out _ _ (unhide SA) (fun hS => ?_)
        clear hK K SA
        refine wpAnyH_take (i := 42) (oi := { dst := some 121, op := Op.binOp BinOp.neq 4 (Operand.tmp 117) (Operand.tmp 120) 4, type := 4, pos := "laws.go:309", after := #[{ on := 38, ground := Ground.data }, { on := 41, ground := Ground.data }, { on := 35, ground := Ground.guard }], guard := some (35, false) }) (v := .bool false) rfl (by kernel_rfl) (by kernel_rfl) (by kernel_rfl) (fun _ _ _ h => h) (Or.inl ⟨by rfl, fun wz _ => by go_simp⟩) hS ?_
        simp only [Act.put, List.setIfInBounds_toArray, List.set_cons_zero, List.set_cons_succ]
        refine wpAnyH_take (i := 43) (oi := { dst := some 122, op := Op.pick (Operand.tmp 114) (Operand.const (Value.bool true)) (Operand.tmp 121), type := 4, pos := "laws.go:309", after := #[{ on := 35, ground := Ground.data }, { on := 42, ground := Ground.data }], guard := none }) (v := .bool false) rfl (by kernel_rfl) (by kernel_rfl) (by kernel_rfl) (fun _ _ _ h => h) (Or.inl ⟨by rfl, fun wz _ => by go_simp⟩) hS ?_
        simp only [Act.put, List.setIfInBounds_toArray, List.set_cons_zero, List.set_cons_succ]
        refine wpAnyH_take (i := 44) (oi := { dst := some 123, op := Op.move (Operand.tmp 122), type := 4, pos := "laws.go:309", after := #[{ on := 43, ground := Ground.data }, { on := 41, ground := Ground.chain }], guard := none }) (v := .bool false) rfl (by kernel_rfl) (by kernel_rfl) (by kernel_rfl) (fun _ _ _ h => h) (Or.inl ⟨by rfl, fun wz _ => by go_simp⟩) hS ?_
        simp only [Act.put, List.setIfInBounds_toArray, List.set_cons_zero, List.set_cons_succ]
        refine wpAnyH_take (i := 45) (oi := { dst := some 124, op := Op.load 25 (Operand.tmp 3), type := 25, pos := "laws.go:309", after := #[{ on := 44, ground := Ground.guard }], guard := some (44, false) }) (v := rv a1 a2) rfl (by kernel_rfl) (by kernel_rfl) (by kernel_rfl) (fun _ _ _ h => h) (Or.inl ⟨by rfl, fun wz hz => by have hq := RD wz hz; clear RD; go_simp⟩) hS ?_
        simp only [Act.put, List.setIfInBounds_toArray, List.set_cons_zero, List.set_cons_succ]
        refine wpAnyH_take (i := 46) (oi := { dst := some 125, op := Op.load 25 (Operand.tmp 4), type := 25, pos := "laws.go:309", after := #[{ on := 44, ground := Ground.guard }], guard := some (44, false) }) (v := rv b1 b2) rfl (by kernel_rfl) (by kernel_rfl) (by kernel_rfl) (fun _ _ _ h => h) (Or.inl ⟨by rfl, fun wz hz => by have hq := RD wz hz; clear RD; go_simp⟩) hS ?_
        simp only [Act.put, List.setIfInBounds_toArray, List.set_cons_zero, List.set_cons_succ]
        refine wpAnyH_take (i := 48) (oi := { dst := some 127, op := Op.load 25 (Operand.tmp 3), type := 25, pos := "laws.go:309", after := #[{ on := 44, ground := Ground.guard }], guard := some (44, false) }) (v := rv a1 a2) rfl (by kernel_rfl) (by kernel_rfl) (by kernel_rfl) (fun _ _ _ h => h) (Or.inl ⟨by rfl, fun wz hz => by have hq := RD wz hz; clear RD; go_simp⟩) hS ?_
        simp only [Act.put, List.setIfInBounds_toArray, List.set_cons_zero, List.set_cons_succ]
        refine wpAnyH_take (i := 49) (oi := { dst := some 128, op := Op.load 25 (Operand.tmp 4), type := 25, pos := "laws.go:309", after := #[{ on := 44, ground := Ground.guard }], guard := some (44, false) }) (v := rv b1 b2) rfl (by kernel_rfl) (by kernel_rfl) (by kernel_rfl) (fun _ _ _ h => h) (Or.inl ⟨by rfl, fun wz hz => by have hq := RD wz hz; clear RD; go_simp⟩) hS ?_
        simp only [Act.put, List.setIfInBounds_toArray, List.set_cons_zero, List.set_cons_succ]
        refine wpAnyH_ready (rs := [47]) (by kernel_rfl) (by simp) ?_
        refine AllReadyH.cons (o := { dst := some 126, op := Op.call { callee := Callee.value (Operand.func 18), args := #[Operand.tmp 124, Operand.tmp 125], argTypes := #[25, 25] }, type := 3, pos := "laws.go:309", after := #[{ on := 45, ground := Ground.data }, { on := 46, ground := Ground.data }, { on := 44, ground := Ground.chain }, { on := 44, ground := Ground.guard }], guard := some (44, false) }) rfl (fun K hK => ?_) AllReadyH.nil
        go_simp
        refine (unhide HITm _).mono ?_
        rintro e wt ⟨rfl, hb⟩
        have SA := hide (KV.call hS hb)
        clear hb hS
        go_wp2_with fail
        refine hK.out _ _ (unhide SA) (fun hS => ?_)
        clear hK K SA
        refine wpAnyH_ready (rs := [50]) (by kernel_rfl) (by simp) ?_
        refine AllReadyH.cons (o := { dst := some 129, op := Op.call { callee := Callee.value (Operand.func 19), args := #[Operand.tmp 127, Operand.tmp 128], argTypes := #[25, 25] }, type := 3, pos := "laws.go:309", after := #[{ on := 48, ground := Ground.data }, { on := 49, ground := Ground.data }, { on := 47, ground := Ground.chain }, { on := 44, ground := Ground.guard }], guard := some (44, false) }) rfl (fun K hK => ?_) AllReadyH.nil
        go_simp
        refine (unhide HSTm _).mono ?_
        rintro e wt ⟨rfl, hb⟩
        have SA := hide (KV.call hS hb)
        clear hb hS
        go_wp2_with fail
        refine hK.out _ _ (unhide SA) (fun hS => ?_)
        clear hK K SA
        refine wpAnyH_take (i := 51) (oi := { dst := some 130, op := Op.binOp BinOp.neq 3 (Operand.tmp 126) (Operand.tmp 129) 3, type := 4, pos := "laws.go:309", after := #[{ on := 47, ground := Ground.data }, { on := 50, ground := Ground.data }, { on := 44, ground := Ground.guard }], guard := some (44, false) }) (v := .bool false) rfl (by kernel_rfl) (by kernel_rfl) (by kernel_rfl) (fun _ _ _ h => h) (Or.inl ⟨by rfl, fun wz _ => by go_simp⟩) hS ?_
        simp only [Act.put, List.setIfInBounds_toArray, List.set_cons_zero, List.set_cons_succ]
        refine wpAnyH_take (i := 52) (oi := { dst := some 131, op := Op.pick (Operand.tmp 123) (Operand.const (Value.bool true)) (Operand.tmp 130), type := 4, pos := "laws.go:309", after := #[{ on := 44, ground := Ground.data }, { on := 51, ground := Ground.data }], guard := none }) (v := .bool false) rfl (by kernel_rfl) (by kernel_rfl) (by kernel_rfl) (fun _ _ _ h => h) (Or.inl ⟨by rfl, fun wz _ => by go_simp⟩) hS ?_
        simp only [Act.put, List.setIfInBounds_toArray, List.set_cons_zero, List.set_cons_succ]
        refine wpAnyH_take (i := 53) (oi := { dst := some 132, op := Op.move (Operand.tmp 131), type := 4, pos := "laws.go:309", after := #[{ on := 52, ground := Ground.data }, { on := 50, ground := Ground.chain }], guard := none }) (v := .bool false) rfl (by kernel_rfl) (by kernel_rfl) (by kernel_rfl) (fun _ _ _ h => h) (Or.inl ⟨by rfl, fun wz _ => by go_simp⟩) hS ?_
        simp only [Act.put, List.setIfInBounds_toArray, List.set_cons_zero, List.set_cons_succ]
        refine wpAnyH_take (i := 54) (oi := { dst := some 133, op := Op.load 25 (Operand.tmp 3), type := 25, pos := "laws.go:309", after := #[{ on := 53, ground := Ground.guard }], guard := some (53, false) }) (v := rv a1 a2) rfl (by kernel_rfl) (by kernel_rfl) (by kernel_rfl) (fun _ _ _ h => h) (Or.inl ⟨by rfl, fun wz hz => by have hq := RD wz hz; clear RD; go_simp⟩) hS ?_
        simp only [Act.put, List.setIfInBounds_toArray, List.set_cons_zero, List.set_cons_succ]
        refine wpAnyH_take (i := 56) (oi := { dst := some 135, op := Op.load 25 (Operand.tmp 3), type := 25, pos := "laws.go:309", after := #[{ on := 53, ground := Ground.guard }], guard := some (53, false) }) (v := rv a1 a2) rfl (by kernel_rfl) (by kernel_rfl) (by kernel_rfl) (fun _ _ _ h => h) (Or.inl ⟨by rfl, fun wz hz => by have hq := RD wz hz; clear RD; go_simp⟩) hS ?_
        simp only [Act.put, List.setIfInBounds_toArray, List.set_cons_zero, List.set_cons_succ]
        refine wpAnyH_ready (rs := [55]) (by kernel_rfl) (by simp) ?_
        refine AllReadyH.cons (o := { dst := some 134, op := Op.call { callee := Callee.value (Operand.func 20), args := #[Operand.tmp 133], argTypes := #[25] }, type := 9, pos := "laws.go:309", after := #[{ on := 54, ground := Ground.data }, { on := 53, ground := Ground.chain }, { on := 53, ground := Ground.guard }], guard := some (53, false) }) rfl (fun K hK => ?_) AllReadyH.nil
        go_simp
        refine (unhide HITa _ (KV.bel hS)).mono ?_
        rintro e wt ⟨rfl, hb⟩
        have SA := hide (KV.call hS hb)
        clear hb hS
        go_wp2_with fail
        refine hK.out _ _ (unhide SA) (fun hS => ?_)
        clear hK K SA
        refine wpAnyH_ready (rs := [57]) (by kernel_rfl) (by simp) ?_
        refine AllReadyH.cons (o := { dst := some 136, op := Op.call { callee := Callee.value (Operand.func 21), args := #[Operand.tmp 135], argTypes := #[25] }, type := 9, pos := "laws.go:309", after := #[{ on := 56, ground := Ground.data }, { on := 55, ground := Ground.chain }, { on := 53, ground := Ground.guard }], guard := some (53, false) }) rfl (fun K hK => ?_) AllReadyH.nil
        go_simp
        refine (unhide HSTa _).mono ?_
        rintro e wt ⟨rfl, hb⟩
        have SA := hide (KV.call hS hb)
        clear hb hS
        go_wp2_with fail
        refine hK.out _ _ (unhide SA) (fun hS => ?_)
        clear hK K SA
        refine wpAnyH_take (i := 58) (oi := { dst := some 137, op := Op.binOp BinOp.neq 9 (Operand.tmp 134) (Operand.tmp 136) 9, type := 4, pos := "laws.go:309", after := #[{ on := 55, ground := Ground.data }, { on := 57, ground := Ground.data }, { on := 53, ground := Ground.guard }], guard := some (53, false) }) (v := .bool false) rfl (by kernel_rfl) (by kernel_rfl) (by kernel_rfl) (fun _ _ _ h => h) (Or.inl ⟨by rfl, fun wz _ => by go_simp⟩) hS ?_
        simp only [Act.put, List.setIfInBounds_toArray, List.set_cons_zero, List.set_cons_succ]
        refine wpAnyH_take (i := 59) (oi := { dst := some 138, op := Op.pick (Operand.tmp 132) (Operand.const (Value.bool true)) (Operand.tmp 137), type := 4, pos := "laws.go:309", after := #[{ on := 53, ground := Ground.data }, { on := 58, ground := Ground.data }], guard := none }) (v := .bool false) rfl (by kernel_rfl) (by kernel_rfl) (by kernel_rfl) (fun _ _ _ h => h) (Or.inl ⟨by rfl, fun wz _ => by go_simp⟩) hS ?_
        simp only [Act.put, List.setIfInBounds_toArray, List.set_cons_zero, List.set_cons_succ]
        refine wpAnyH_take (i := 60) (oi := { dst := some 139, op := Op.move (Operand.tmp 138), type := 4, pos := "laws.go:309", after := #[{ on := 59, ground := Ground.data }, { on := 57, ground := Ground.chain }], guard := none }) (v := .bool false) rfl (by kernel_rfl) (by kernel_rfl) (by kernel_rfl) (fun _ _ _ h => h) (Or.inl ⟨by rfl, fun wz _ => by go_simp⟩) hS ?_
        simp only [Act.put, List.setIfInBounds_toArray, List.set_cons_zero, List.set_cons_succ]
        refine wpAnyH_take (i := 61) (oi := { dst := some 140, op := Op.load 25 (Operand.tmp 3), type := 25, pos := "laws.go:309", after := #[{ on := 60, ground := Ground.guard }], guard := some (60, false) }) (v := rv a1 a2) rfl (by kernel_rfl) (by kernel_rfl) (by kernel_rfl) (fun _ _ _ h => h) (Or.inl ⟨by rfl, fun wz hz => by have hq := RD wz hz; clear RD; go_simp⟩) hS ?_
        simp only [Act.put, List.setIfInBounds_toArray, List.set_cons_zero, List.set_cons_succ]
        refine wpAnyH_take (i := 63) (oi := { dst := some 142, op := Op.load 25 (Operand.tmp 3), type := 25, pos := "laws.go:309", after := #[{ on := 60, ground := Ground.guard }], guard := some (60, false) }) (v := rv a1 a2) rfl (by kernel_rfl) (by kernel_rfl) (by kernel_rfl) (fun _ _ _ h => h) (Or.inl ⟨by rfl, fun wz hz => by have hq := RD wz hz; clear RD; go_simp⟩) hS ?_
        simp only [Act.put, List.setIfInBounds_toArray, List.set_cons_zero, List.set_cons_succ]
        refine wpAnyH_ready (rs := [62]) (by kernel_rfl) (by simp) ?_
        refine AllReadyH.cons (o := { dst := some 141, op := Op.call { callee := Callee.value (Operand.func 22), args := #[Operand.tmp 140], argTypes := #[25] }, type := 4, pos := "laws.go:309", after := #[{ on := 61, ground := Ground.data }, { on := 60, ground := Ground.chain }, { on := 60, ground := Ground.guard }], guard := some (60, false) }) rfl (fun K hK => ?_) AllReadyH.nil
        go_simp
        refine (unhide HIK _).mono ?_
        rintro e wt ⟨rfl, hb⟩
        have SA := hide (KV.call hS hb)
        clear hb hS
        go_wp2_with fail
        refine hK.out _ _ (unhide SA) (fun hS => ?_)
        clear hK K SA
        refine wpAnyH_ready (rs := [64]) (by kernel_rfl) (by simp) ?_
        refine AllReadyH.cons (o := { dst := some 143, op := Op.call { callee := Callee.value (Operand.func 23), args := #[Operand.tmp 142], argTypes := #[25] }, type := 4, pos := "laws.go:309", after := #[{ on := 63, ground := Ground.data }, { on := 62, ground := Ground.chain }, { on := 60, ground := Ground.guard }], guard := some (60, false) }) rfl (fun K hK => ?_) AllReadyH.nil
        go_simp
        refine (unhide HSK _).mono ?_
        rintro e wt ⟨rfl, hb⟩
        have SA := hide (KV.call hS hb)
        clear hb hS
        go_wp2_with fail
        refine hK.out _ _ (unhide SA) (fun hS => ?_)
        clear hK K SA
        refine wpAnyH_take (i := 65) (oi := { dst := some 144, op := Op.binOp BinOp.neq 4 (Operand.tmp 141) (Operand.tmp 143) 4, type := 4, pos := "laws.go:309", after := #[{ on := 62, ground := Ground.data }, { on := 64, ground := Ground.data }, { on := 60, ground := Ground.guard }], guard := some (60, false) }) (v := .bool false) rfl (by kernel_rfl) (by kernel_rfl) (by kernel_rfl) (fun _ _ _ h => h) (Or.inl ⟨by rfl, fun wz _ => by go_simp⟩) hS ?_
        simp only [Act.put, List.setIfInBounds_toArray, List.set_cons_zero, List.set_cons_succ]
        refine wpAnyH_take (i := 66) (oi := { dst := some 145, op := Op.pick (Operand.tmp 139) (Operand.const (Value.bool true)) (Operand.tmp 144), type := 4, pos := "laws.go:309", after := #[{ on := 60, ground := Ground.data }, { on := 65, ground := Ground.data }], guard := none }) (v := .bool false) rfl (by kernel_rfl) (by kernel_rfl) (by kernel_rfl) (fun _ _ _ h => h) (Or.inl ⟨by rfl, fun wz _ => by go_simp⟩) hS ?_
        simp only [Act.put, List.setIfInBounds_toArray, List.set_cons_zero, List.set_cons_succ]
        refine wpAnyH_take (i := 67) (oi := { dst := some 146, op := Op.move (Operand.tmp 145), type := 4, pos := "laws.go:309", after := #[{ on := 66, ground := Ground.data }, { on := 64, ground := Ground.chain }], guard := none }) (v := .bool false) rfl (by kernel_rfl) (by kernel_rfl) (by kernel_rfl) (fun _ _ _ h => h) (Or.inl ⟨by rfl, fun wz _ => by go_simp⟩) hS ?_
        simp only [Act.put, List.setIfInBounds_toArray, List.set_cons_zero, List.set_cons_succ]
        refine wpAnyH_take (i := 68) (oi := { dst := some 147, op := Op.move (Operand.tmp 18), type := 4, pos := "laws.go:309", after := #[{ on := 67, ground := Ground.guard }], guard := some (67, false) }) (v := .bool false) rfl (by kernel_rfl) (by kernel_rfl) (by kernel_rfl) (fun _ _ _ h => h) (Or.inl ⟨by rfl, fun wz _ => by go_simp⟩) hS ?_
        simp only [Act.put, List.setIfInBounds_toArray, List.set_cons_zero, List.set_cons_succ]
        refine wpAnyH_take (i := 69) (oi := { dst := some 148, op := Op.move (Operand.tmp 147), type := 4, pos := "laws.go:309", after := #[{ on := 68, ground := Ground.data }, { on := 67, ground := Ground.chain }, { on := 67, ground := Ground.guard }], guard := some (67, false) }) (v := .bool false) rfl (by kernel_rfl) (by kernel_rfl) (by kernel_rfl) (fun _ _ _ h => h) (Or.inl ⟨by rfl, fun wz _ => by go_simp⟩) hS ?_
        simp only [Act.put, List.setIfInBounds_toArray, List.set_cons_zero, List.set_cons_succ]
        refine wpAnyH_take (i := 70) (oi := { dst := some 149, op := Op.load 25 (Operand.tmp 17), type := 25, pos := "laws.go:309", after := #[{ on := 69, ground := Ground.guard }], guard := some (69, true) }) (v := undef) rfl (by kernel_rfl) (by kernel_rfl) (by kernel_rfl) (fun _ _ _ h => h) (Or.inr ⟨by rfl, rfl⟩) hS ?_
        simp only [Act.put, List.setIfInBounds_toArray, List.set_cons_zero, List.set_cons_succ]
        refine wpAnyH_take (i := 71) (oi := { dst := some 150, op := Op.call { callee := Callee.value (Operand.func 20), args := #[Operand.tmp 149], argTypes := #[25] }, type := 9, pos := "laws.go:309", after := #[{ on := 70, ground := Ground.data }, { on := 69, ground := Ground.chain }, { on := 69, ground := Ground.guard }], guard := some (69, true) }) (v := undef) rfl (by kernel_rfl) (by kernel_rfl) (by kernel_rfl) (fun _ _ _ h => h) (Or.inr ⟨by rfl, rfl⟩) hS ?_
        simp only [Act.put, List.setIfInBounds_toArray, List.set_cons_zero, List.set_cons_succ]
        refine wpAnyH_take (i := 72) (oi := { dst := some 151, op := Op.move (Operand.tmp 16), type := 9, pos := "laws.go:309", after := #[{ on := 69, ground := Ground.guard }], guard := some (69, true) }) (v := undef) rfl (by kernel_rfl) (by kernel_rfl) (by kernel_rfl) (fun _ _ _ h => h) (Or.inr ⟨by rfl, rfl⟩) hS ?_
        simp only [Act.put, List.setIfInBounds_toArray, List.set_cons_zero, List.set_cons_succ]
        refine wpAnyH_take (i := 73) (oi := { dst := some 152, op := Op.binOp BinOp.neq 9 (Operand.tmp 150) (Operand.tmp 151) 9, type := 4, pos := "laws.go:309", after := #[{ on := 71, ground := Ground.data }, { on := 72, ground := Ground.data }, { on := 69, ground := Ground.guard }], guard := some (69, true) }) (v := undef) rfl (by kernel_rfl) (by kernel_rfl) (by kernel_rfl) (fun _ _ _ h => h) (Or.inr ⟨by rfl, rfl⟩) hS ?_
        simp only [Act.put, List.setIfInBounds_toArray, List.set_cons_zero, List.set_cons_succ]
        refine wpAnyH_take (i := 74) (oi := { dst := some 153, op := Op.pick (Operand.tmp 148) (Operand.tmp 152) (Operand.const (Value.bool false)), type := 4, pos := "laws.go:309", after := #[{ on := 69, ground := Ground.data }, { on := 73, ground := Ground.data }, { on := 67, ground := Ground.guard }], guard := some (67, false) }) (v := .bool false) rfl (by kernel_rfl) (by kernel_rfl) (by kernel_rfl) (fun _ _ _ h => h) (Or.inl ⟨by rfl, fun wz _ => by go_simp⟩) hS ?_
        simp only [Act.put, List.setIfInBounds_toArray, List.set_cons_zero, List.set_cons_succ]
        refine wpAnyH_take (i := 75) (oi := { dst := some 154, op := Op.pick (Operand.tmp 146) (Operand.const (Value.bool true)) (Operand.tmp 153), type := 4, pos := "laws.go:309", after := #[{ on := 67, ground := Ground.data }, { on := 74, ground := Ground.data }], guard := none }) (v := .bool false) rfl (by kernel_rfl) (by kernel_rfl) (by kernel_rfl) (fun _ _ _ h => h) (Or.inl ⟨by rfl, fun wz _ => by go_simp⟩) hS ?_
        simp only [Act.put, List.setIfInBounds_toArray, List.set_cons_zero, List.set_cons_succ]
        refine wpAnyH_done (by kernel_rfl) ?_ _
        have KK := hide hS
        clear hS RD
        go_wp2_with fail
        go_meet
        exact ⟨rfl, unhide KK⟩
    case rest =>
      obtain ⟨rfl, k11⟩ := hcut
      have K11 := hide k11
      clear k11 K10
      go_upto_if 155 with (fail)
      go_cut [155] from 155 to 174 (fun _ wx => KV w [(w10.heap.size, x1, x2), (w9.heap.size, x1, x2), (w7.heap.size, h1, h2), (w6.heap.size, t1, t2), (w5.heap.size, d1, d2), (w4.heap.size, d1, d2), (w3.heap.size, s1, s2), (w2.heap.size, s1, s2), (w1.heap.size + 1, b1, b2), (w1.heap.size, a1, a2)] wx)
      case first =>
        cases ok with
        | true =>
          have hv := unhide HVAdd
          have ho := unhide HOAdd
          rw [both_yes ho] at hv
          have hs : a1 + 1 * b1 = s1 ∧ a2 + 1 * b2 = s2 := by simpa [rv] using hv
          obtain ⟨g1, g2⟩ := add_back ho
          have g3 := add_within ho
          rw [hs.1, hs.2] at g1 g2 g3
          have F11 := vars_read10 (unhide K11).1
          clear hv ho hs
          go_wp2_with fail
          have hc := implSub_any s1 s2 b1 b2 wc
          rw [g1, g2] at hc
          refine hc.mono ?_
          clear hc g1 g2
          rintro e w12 ⟨rfl, hb⟩
          have K12 := hide (KV.al ((unhide K11).call hb) (.cells #[.int .i64 a1, .int .i64 a2] 25))
          have F12 := vars_read10 (unhide K12).1
          have V12 := hide (var_new w12 25 a1 a2)
          have c0 := (unhide V12).c0
          have c1 := (unhide V12).c1
          clear hb F11
          go_wp2_with fail
          have hc := implWithin_any a1 a2 s1 s2 (w12.alloc (.cells #[.int .i64 a1, .int .i64 a2] 25))
          rw [g3] at hc
          refine hc.mono ?_
          clear hc g3
          rintro e w13 ⟨rfl, hb⟩
          have K13 := hide ((unhide K12).call hb)
          clear hb F12 V12 c0 c1
          go_wp2_with fail
          go_meet
          exact unhide K13
        | false =>
          go_wp2_with fail
          go_meet
          exact unhide K11
      case rest =>
        have K14 := hide hcut
        clear hcut K11
        go_upto_region 19 with (fail)
        go_cut [187] from 175 to 187 (fun b wx => b = .bool false ∧ KV w [(w10.heap.size, x1, x2), (w9.heap.size, x1, x2), (w7.heap.size, h1, h2), (w6.heap.size, t1, t2), (w5.heap.size, d1, d2), (w4.heap.size, d1, d2), (w3.heap.size, s1, s2), (w2.heap.size, s1, s2), (w1.heap.size + 1, b1, b2), (w1.heap.size, a1, a2)] wx)
        case first =>
          have F14 := vars_read10 (unhide K14).1
          go_wp2_with fail
          refine (unhide HSK _).mono ?_
          rintro e w15 ⟨rfl, hb⟩
          have K15 := hide ((unhide K14).call hb)
          have F15 := vars_read10 (unhide K15).1
          clear hb K14 F14
          cases ro with
          | true =>
            obtain ⟨rb, hq⟩ : ∃ x, resOk b1 b2 = x := ⟨_, rfl⟩
            have hc : ∀ wx, Calls Tryd.prog 23 #[rv b1 b2] wx fun e w' => e = .returned (.bool rb) ∧ Below wx.heap.size wx w' := fun wx => by have := specResOk_bel b1 b2 wx; rw [hq] at this; exact this
            have HC := hide hc
            have HQ := hide hq
            clear hc hq
            go_wp2_with fail
            refine (unhide HC _).mono ?_
            rintro e w16 ⟨rfl, hb⟩
            have K16 := hide ((unhide K15).call hb)
            have F16 := vars_read10 (unhide K16).1
            clear hb K15 F15
            cases rb with
            | true =>
              have hw := sub_within (unhide HQro) (unhide HQ)
              rw [unhide HOSub] at hw
              have HW := hide hw
              clear hw
              go_wp2_with fail
              have hc := implWithin_any b1 b2 a1 a2 w16
              rw [← unhide HW] at hc
              refine hc.mono ?_
              clear hc HW
              rintro e w17 ⟨rfl, hb⟩
              have K17 := hide ((unhide K16).call hb)
              clear hb F16
              go_wp2_with fail
              go_meet
              exact ⟨rfl, unhide K17⟩
            | false =>
              go_wp2_with fail
              go_meet
              exact ⟨rfl, unhide K16⟩
          | false =>
            go_wp2_with fail
            go_meet
            exact ⟨rfl, unhide K15⟩
        case rest =>
          obtain ⟨rfl, k18⟩ := hcut
          have K18 := hide k18
          clear k18 K14
          have F18 := vars_read10 (unhide K18).1
          go_wp2_with fail
          refine (unhide HSK _).mono ?_
          rintro e w19 ⟨rfl, hb⟩
          have K19 := hide ((unhide K18).call hb)
          clear hb K18 F18
          go_upto_if 189 with (fail)
          go_cut [189] from 190 to 202 (fun _ wx => KV w [(w10.heap.size, x1, x2), (w9.heap.size, x1, x2), (w7.heap.size, h1, h2), (w6.heap.size, t1, t2), (w5.heap.size, d1, d2), (w4.heap.size, d1, d2), (w3.heap.size, s1, s2), (w2.heap.size, s1, s2), (w1.heap.size + 1, b1, b2), (w1.heap.size, a1, a2)] wx)
          case first =>
            cases ro with
            | true =>
              obtain ⟨g1, g2⟩ := text_ok (unhide HQro)
              rw [unhide HQta] at g1 g2
              have hsz : ta.size ≤ 1048576 := by rw [← unhide HQta]; have := resText_size a1 a2 (unhide HI).1 (unhide HI).2.1; omega
              have F19 := vars_read10 (unhide K19).1
              go_wp2_with fail
              refine (unhide HITa _ (unhide K19).bel).mono ?_
              rintro e w20 ⟨rfl, hb⟩
              have K20 := hide ((unhide K19).call hb)
              clear hb K19 F19
              go_wp2_with fail
              have hc := implReadRes_any ta w20 hsz ((unhide HML).below (unhide K20).bel)
              rw [g1, g2] at hc
              refine hc.mono ?_
              clear hc g1 g2
              rintro e w21 ⟨rfl, hb⟩
              have K21 := hide (KV.al ((unhide K20).call hb) (.cells #[.int .i64 a1, .int .i64 a2] 25))
              have F21 := vars_read10 (unhide K21).1
              have V21 := hide (var_new w21 25 a1 a2)
              have c0 := (unhide V21).c0
              have c1 := (unhide V21).c1
              clear hb K20
              go_wp2_with fail
              go_meet
              exact unhide K21
            | false =>
              go_wp2_with fail
              go_meet
              exact unhide K19
          case rest =>
            have K22 := hide (show KV w [(w7.heap.size, h1, h2), (w6.heap.size, t1, t2)] _ from ⟨fun v hv => hcut.1 v (by simp only [List.mem_cons, List.not_mem_nil, or_false] at hv ⊢; rcases hv with rfl | rfl <;> simp), hcut.2⟩)
            clear hcut K19 HITa HSTa HQta HIK HSK HQro HIW HSW HITm HSTm HOAdd HVAdd HOSub HVSub HVR HOR HML HQwi HQtm
            have F22 := vars_read2 (unhide K22).1
            obtain ⟨rt, hq⟩ : ∃ x, resOk t1 t2 = x := ⟨_, rfl⟩
            have hc : ∀ wx, Calls Tryd.prog 23 #[rv t1 t2] wx fun e w' => e = .returned (.bool rt) ∧ Below wx.heap.size wx w' := fun wx => by have := specResOk_bel t1 t2 wx; rw [hq] at this; exact this
            have HC := hide hc
            have HQ := hide hq
            clear hc hq
            go_wp2_with fail
            refine (unhide HC _).mono ?_
            rintro e w23 ⟨rfl, hb⟩
            have K23 := hide ((unhide K22).call hb)
            have F23 := vars_read2 (unhide K23).1
            clear hb K22 F22 HC
            by_cases sh : shareOk t1 t2 n = true
            · have sh2 := sh
              simp only [shareOk, Bool.and_eq_true] at sh2
              have hn : 0 ≤ n ∧ n ≤ 10000 := by simpa [inB] using sh2.2
              obtain rfl : rt = true := by rw [← unhide HQ]; exact sh2.1
              have SH := hide sh
              clear sh sh2
              go_wp2_with fail
              refine (at_any _ _ _ _ 4 _ ((unhide HK).below (unhide K23).bel (Nat.le_refl _)) (by decide)).mono ?_
              rintro e w24 ⟨c4, rfl, hc0, hc1, rfl⟩
              obtain ⟨m, m1, m2, r1, r2, q1, q2, hm, hwn, hM1, hM2, hA, hW1, hW2⟩ := share_end (unhide SH) hn hc0 hc1 (unhide HH1) (unhide HH2)
              have HM1 := hide hM1
              have HM2 := hide hM2
              have HA := hide hA
              have HW1 := hide hW1
              have HW2 := hide hW2
              have HWN := hide hwn
              have HMM := hide hm
              clear hM1 hM2 hA hW1 hW2 hwn hm
              have hm1 : 0 ≤ c4 * (10000 - n) := Int.mul_nonneg hc0 (by omega)
              have hm2 : c4 * (10000 - n) ≤ 255 * (10000 - n) := Int.mul_le_mul_of_nonneg_right hc1 (by omega)
              go_upto_region 28 with (fail)
              rw [unhide HMM]
              have hwn := unhide HWN
              clear HMM HWN hm1 hm2 hc0 hc1 hn HK HT SH HH1 HH2 HQ
              go_cut [26, 27] from 223 to 230 (fun v26 v27 wx => ∃ g, v26 = .pointer (some ⟨g, 0, none⟩) ∧ v27 = .bool true ∧ KV w ((g, q1, q2) :: [(w7.heap.size, h1, h2), (w6.heap.size, t1, t2)]) wx)
              case first =>
                have RD : ∀ wx, KV w [(w7.heap.size, h1, h2), (w6.heap.size, t1, t2)] wx → _ := fun wx h => vars_read2 h.1
                obtain ⟨nz0, bz0⟩ := (unhide K23).ne
                have HNZ := hide nz0
                clear F23 nz0
                go_region_held3 (fun wx => KV w [(w7.heap.size, h1, h2), (w6.heap.size, t1, t2)] wx)
                  (first | (with_reducible assumption) | exact unhide SA | exact KV.drew (unhide K23) | exact KV.al (unhide SA) _ | exact KV.al (by assumption) _ | exact KV.al (unhide K23).drew _ | exact KV.call (by assumption) (by assumption) | exact KV.set (KV.set (unhide SA) _ _ _ (unhide NZ) bz) _ _ _ (unhide NZ) bz | exact KV.set (KV.set (by assumption) _ _ _ (unhide (by assumption)) (by assumption)) _ _ _ (unhide (by assumption)) (by assumption))
                  (first
                  | (go_at_call 11; refine (unhide HM1 _).mono ?_; rintro e wt ⟨rfl, hb⟩; have SA := hide (KV.call (w0 := w) (l := [(w7.heap.size, h1, h2), (w6.heap.size, t1, t2)]) (by assumption) hb); have NZ := hide (unhide SA).ne.1; have bz := (unhide SA).ne.2
                     first
                     | (have V5 := (var_new _ 25 0 0).below hb; (try simp at V5); have c50 := V5.c0; have c51 := V5.c1; have f50 := V5.f 0; have f51 := V5.f 1; have V5 := hide V5)
                     | (have V5 := (var_new _ 25 0 0).drew.below hb; (try simp at V5); have c50 := V5.c0; have c51 := V5.c1; have f50 := V5.f 0; have f51 := V5.f 1; have V5 := hide V5)
                     | (have V5 := hide ((unhide V5).below hb); have c50 := (unhide V5).c0; have c51 := (unhide V5).c1; have f50 := (unhide V5).f 0; have f51 := (unhide V5).f 1)
                     | skip)
                  | (go_at_call 6; refine (unhide HA _).mono ?_; rintro e wt ⟨rfl, hb⟩; have SA := hide (KV.call (w0 := w) (l := [(w7.heap.size, h1, h2), (w6.heap.size, t1, t2)]) (by assumption) hb); have NZ := hide (unhide SA).ne.1; have bz := (unhide SA).ne.2
                     first
                     | (have V5 := (var_new _ 25 0 0).below hb; (try simp at V5); have c50 := V5.c0; have c51 := V5.c1; have f50 := V5.f 0; have f51 := V5.f 1; have V5 := hide V5)
                     | (have V5 := (var_new _ 25 0 0).drew.below hb; (try simp at V5); have c50 := V5.c0; have c51 := V5.c1; have f50 := V5.f 0; have f51 := V5.f 1; have V5 := hide V5)
                     | (have V5 := hide ((unhide V5).below hb); have c50 := (unhide V5).c0; have c51 := (unhide V5).c1; have f50 := (unhide V5).f 0; have f51 := (unhide V5).f 1)
                     | skip))
                all_goals
                  go_wp2_with fail
                  go_meet
                  exact ⟨_, rfl, rfl, KV.cons (by first | assumption | exact unhide SA | exact KV.al (unhide SA) _) (by first | exact var_new _ _ _ _ | exact (unhide V5).set _ _)⟩
              case rest =>
                obtain ⟨g, rfl, rfl, k25⟩ := hcut
                have K25 := hide k25
                clear k25 K23 F23
                have RD : ∀ wx, KV w ((g, q1, q2) :: [(w7.heap.size, h1, h2), (w6.heap.size, t1, t2)]) wx → _ := fun wx h => vars_read3 h.1
                go_upto_region 29 with (fail)
                go_region_held3 (fun wx => KV w ((g, q1, q2) :: [(w7.heap.size, h1, h2), (w6.heap.size, t1, t2)]) wx)
                  (first | (with_reducible assumption) | exact KV.drew (unhide K25) | exact KV.call (by assumption) (by assumption))
                  (first
                  | (go_at_call_of 16 h1; refine (unhide HW1 _).mono ?_; rintro e wt ⟨rfl, hb⟩; have SA := KV.call (w0 := w) (l := ((g, q1, q2) :: [(w7.heap.size, h1, h2), (w6.heap.size, t1, t2)])) (by assumption) hb)
                  | (go_at_call_of 16 q1; refine (unhide HW2 _).mono ?_; rintro e wt ⟨rfl, hb⟩; have SA := KV.call (w0 := w) (l := ((g, q1, q2) :: [(w7.heap.size, h1, h2), (w6.heap.size, t1, t2)])) (by assumption) hb)
                  | (go_at_call 11; refine (unhide HM2 _).mono ?_; rintro e wt ⟨rfl, hb⟩; have SA := KV.call (w0 := w) (l := ((g, q1, q2) :: [(w7.heap.size, h1, h2), (w6.heap.size, t1, t2)])) (by assumption) hb))
                have KK := hide SA
                go_wp2
                go_ret
                exact ⟨rfl, (unhide KK).bel⟩
            · have z1 : h1 = 0 := by rw [← unhide HH1, shareM, if_neg sh]
              have z2 : h2 = 0 := by rw [← unhide HH2, shareC, if_neg sh]
              have sh2 : ¬ (resOk t1 t2 = true ∧ (0 ≤ n ∧ n ≤ 10000)) := fun h => sh (by simp [shareOk, inB, h.1, h.2.1, h.2.2])
              clear HH1 HH2 HIShare HSShare sh
              subst z1 z2
              rw [unhide HQ] at sh2
              cases rt with
              | false =>
                go_wp2
                go_ret
                exact ⟨rfl, (unhide K23).bel⟩
              | true =>
                by_cases n0 : n < 0
                · go_wp2
                  go_ret
                  exact ⟨rfl, (unhide K23).bel⟩
                · have n1 : 10000 < n := by apply Int.not_le.1; intro h; exact sh2 ⟨rfl, by omega, h⟩
                  clear sh2
                  go_wp2
                  go_ret
                  exact ⟨rfl, (unhide K23).bel⟩
  · have hbb : bigB len0 = true := by simp [bigB]; omega
    go_enter Tryd.func3, Tryd.ntmps3
    go_wp2_with fail
    refine (big_any _ _ _ _ hl).mono ?_
    rintro e wb ⟨rfl, rfl⟩
    go_wp2
    go_ret
    exact ⟨rfl, Below.refl _ _⟩

set_option maxRecDepth 100000 in
theorem contract (H : Type) (enc : TypeId × Value → H) (W : World) (base : Nat) (args : Array Value) (ds gs : List (DataW H)) (before : List MemPlace)
    (hval : ∀ (j : Nat) t v, Tryd.f3.params[j]? = some t → args[j]? = some v → Value.okWide Tryd.prog W .any base t v)
    (hW : DataW.Whole enc Tryd.prog Tryd.f3.params.toList Rows.fnResSpec.vars false W args.toList ds gs before) (hL : laidMetH Tryd.prog Rows.fnResRow.laid W) (hsh : W.ShapedOpen Tryd.prog) :
    Calls Tryd.prog 3 args W fun e W' => ∃ v, e = .returned v ∧ Rows.fnResSpec.post enc Tryd.prog Tryd.f3 false true false false W args v W' := by
  have hW' := hW
  obtain ⟨p, q, hA0, hV, rfl, hfz, hnd⟩ := hW
  have hA : DataW.TrodAll enc Tryd.prog W 0 (fun _ => true) true Tryd.f3.params.toList args.toList ds p := hA0
  rw [Tryd.params3] at hA hval
  obtain ⟨v0, vs0, d0, ds0, p0, q0, hargs, rfl, rfl, h0, r0⟩ := trodAll_cons hA
  obtain ⟨rfl, rfl, rfl⟩ := trodAll_nil r0
  obtain rfl : args = #[v0] := by cases args; simp_all
  obtain ⟨rfl, rfl⟩ := trodVars_none hV
  obtain ⟨a0, len0, cap0, rfl⟩ := okWide_slice Tryd.underlying22 (hval 0 22 v0 rfl rfl)
  have k0 := h0
  have lt0 : ∀ x ∈ p0, x.block < W.heap.size := by obtain ⟨m, hm⟩ := k0; exact DataW.trod_lt m _ _ _ hm
  obtain ⟨z0, w0⟩ : ∃ zs, IsRow W a0 len0 cap0 zs := by
    obtain ⟨fuel, hf⟩ := h0
    rcases open_ints Tryd.underlying22 Tryd.underlying5 (by kernel_rfl) hf with ⟨hcs, _⟩ | ⟨x, l, c, zs, hcs, _, hl, hm, hz, _, hcell, hwz⟩
    · simp [Value.cells] at hcs
      obtain ⟨rfl, rfl, rfl⟩ := hcs
      exact ⟨[], .inl ⟨rfl, rfl, rfl, rfl⟩⟩
    · simp [Value.cells] at hcs
      obtain ⟨rfl, rfl, rfl⟩ := hcs
      exact ⟨zs, .inr ⟨_, rfl, hl, hm, by simpa using hz, hcell, hwz⟩⟩
  clear hA0
  refine (walk a0 len0 cap0 z0 W w0 hL hsh).mono fun e W' ⟨he, bel⟩ => ?_
  subst he
  exact ⟨_, rfl, _, _, _, [], _, [], hW', trodAll_mk1 (shut_bool Tryd.underlying4 _), (trodAll_cons_mk (Below.trod laidOut (by kernel_rfl) (of_decide_eq_true (by kernel_rfl)) k0 bel lt0) trodAll_mk0), rfl, bel.frame _, fun h => by cases h⟩

theorem reads (os : Os) {H : Type} (enc : TypeId × Value → H) : ∃ places, DataW.whole enc Tryd.prog ((World.laidAll Tryd.prog os Rows.fnResRow.laid).forCall (fun _ _ => 0) ⟨#[], #[.slice none 0 0], []⟩).memory Tryd.f3.params.toList Rows.fnResSpec.vars false #[Value.slice none 0 0].toList 8 = some ([.nil], [], places) :=
  ⟨[], by kernel_rfl⟩

set_option maxRecDepth 100000 in
theorem lifted (os : Os) (started : os.Started) (H : Type) (enc : TypeId × Value → H) (F : Stop.Interp) :
    ReturnsInHanded {} Tryd.checked os 3 .any ((OpenSpec.ofChange Rows.fnResSpec).preRow enc Tryd.prog Tryd.f3 Rows.fnResRow.domain false Rows.fnResRow.laid) (((OpenSpec.ofChange Rows.fnResSpec).at F).post enc Tryd.prog Tryd.f3 false true false false) := by
  obtain ⟨places, hx⟩ := reads os enc
  refine returnsInHanded_of_row (C := Tryd.checked) (s := OpenSpec.ofChange Rows.fnResSpec) own started (by kernel_rfl) Tryd.func3
    (witness_row_at (enc := enc) (C := Tryd.checked) false (World.laidAll Tryd.prog os Rows.fnResRow.laid) #[.slice none 0 0] (World.laidAll_os _ _ _) (by kernel_rfl) (by kernel_rfl) (by kernel_rfl)
      (OpenSpec.preRow_of_cond 8 hx (by kernel_rfl) (fun k hk => by cases hk) (by kernel_rfl) (laidMet_laidAll _ (by kernel_rfl) (by kernel_rfl)))) ?_
  intro W base args ds gs before hval hW _ _ _ hL hsh _
  exact contract H enc W base args ds gs before hval hW hL hsh

theorem said : Rows.FnResSaid :=
  OpenClaim.holds_of_cond 3 Tryd.f3 rfl rfl rfl rfl rfl rfl rfl ⟨rfl, rfl, rfl, rfl, rfl⟩ rfl rfl rfl rfl rfl (by kernel_rfl) Tryd.func3 (by kernel_rfl)
    (of_decide_eq_true (by kernel_rfl)) (by unfold Func.isWrapper; first | (rw [if_pos (by decide +kernel)]; kernel_rfl) | (rw [if_neg (by decide +kernel)]; exact ⟨rfl, rfl⟩))
    (fun os started H enc _ F => by rw [OpenClaim.pre_eq_preRow]; exact lifted os started H enc F)

theorem plain (f : FuncId) (fn : Func) (hf : Tryd.pinned.checked.prog.funcNamed Rows.fnResRow.func = some f) (hfn : Tryd.pinned.checked.prog.funcs[f]? = some fn) :
    false = Tryd.pinned.checked.prog.looks [] ∧ ∀ (j : Nat) t, fn.params[j]? = some t → Tryd.pinned.checked.prog.wantsStandIn t = false := by
  obtain rfl : f = 3 := Option.some.inj ((show Tryd.prog.funcNamed Rows.fnResRow.func = some 3 by kernel_rfl).symm.trans hf) |>.symm
  obtain rfl : fn = Tryd.f3 := (Option.some.inj (Tryd.func3.symm.trans hfn)).symm
  refine ⟨by kernel_rfl, fun j t ht => ?_⟩
  rw [Tryd.params3] at ht
  obtain rfl : t = 22 := by simpa using Array.mem_of_getElem? ht
  exact (show Tryd.prog.wantsStandIn 22 = false by kernel_rfl)
end Go.Proofs.YtoejklldpceghaaDoor.fnRes

namespace Go.Proofs.YtoejklldpceghaaDoor
theorem fnRes_card : Rows.FnResCardSaid :=
  Claim7.holds_tied_plain_at .later [] _ _ _ _ fnRes.said (fun _ h => by cases h) (by kernel_rfl) (fun _ h => by cases h) fnRes_row_tie rfl ⟨rfl, rfl⟩ (by kernel_rfl) rfl fnRes.plain (by kernel_rfl)
#print axioms fnRes_card
end Go.Proofs.YtoejklldpceghaaDoor
