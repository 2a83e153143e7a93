/-
  The law FnNums answers true at every slice of bytes, and leaves it as it was: a number and a text come back from their bytes, and no other bytes are theirs; no condition.
-/
import Derived.Test.YtfmhibkgmcafgaaRows
import Derived.Test.YtfmhibkgmcafgaaDraw4
import Derived.Test.YtfmhibkgmcafgaaNumsM
import Derived.Test.YtfmhibkgmcafgaaCode
import Derived.WalkKit
import Derived.Deep.CutRange
import Derived.Deep.RegionHeld3
import Derived.ProofKit
import Derived.OpenShut
import Derived.ShutString
import Derived.ChangeOld
import Derived.Below
namespace Go.Proofs.Ytfmhibkgmcafgaa.fnNums
open Go.ChangeShapes Go.WideShapes Go.ChangeAt Go.RowKit
open Go.ChangeMaps (open_string shut_string)
set_option linter.unusedVariables false

theorem own : ownKnob Try.prog.godebug = none := by kernel_rfl
theorem laidOut : laidOutB Try.prog = true := by kernel_rfl

theorem slice_back {s t : ByteArray} {i : Int} {j : Int} (h : ∃ I T : Nat, i = I ∧ j = T ∧ I ≤ T ∧ T ≤ s.size ∧ s.extract I T = t) (wx : World) :
    (Instr.slice 9 (.string s) (some (.int .i64 i)) (some (.int .i64 j)) none).run Try.prog wx = .ok (.string t) wx := by
  obtain ⟨I, T, rfl, rfl, h1, h2, h3⟩ := h
  have := run_slice_string (P := Try.prog) wx 9 s .i64 .i64 (I : Int) (T : Int) Try.underlying9 (by omega) (by omega) (by omega)
  rw [this, Int.toNat_natCast, Int.toNat_natCast, h3]
theorem join_ab (l : List UInt8) : ByteArray.mk #[97] ++ bs l ++ ByteArray.mk #[98] = bs (97 :: (l ++ [98])) := by
  rw [cons_bs]
  show bs (97 :: l) ++ bs [98] = _
  rw [bs_append]; simp [bs]
theorem getText_len (l : List UInt8) (k : Int) : (getText l k).1.length ≤ l.length := by
  unfold getText
  simp only
  split
  · simp
  · simp; omega
theorem data_bs (l : List UInt8) : (bs l).data.toList = l := by simp [bs]

set_option maxRecDepth 100000 in
set_option linter.unusedSimpArgs false in
set_option maxHeartbeats 4000000 in
theorem walk (a0 : Option Addr) (len0 cap0 : Nat) (z0 : List Int) (w : World) (w0 : IsRow w a0 len0 cap0 z0) :
    Calls Try.prog 3 #[.slice a0 len0 cap0] w fun e w' => e = .returned (.bool true) ∧ Below w.heap.size w w' := by
  have hl := w0.len
  by_cases hbig : len0 ≤ 1048576
  · have HK := hide (code_of w0 hbig)
    have hbb : bigB len0 = false := by simp [bigB]; omega
    clear w0
    go_enter Try.func3, Try.ntmps3
    go_wp2_with fail
    refine (big_any _ _ _ _ hl).mono ?_
    rintro e wb ⟨rfl, rfl⟩
    go_wp2_with fail
    refine (drawPutNum_any _ _ _ _ _ (unhide HK)).mono ?_
    rintro e w1 ⟨n, rfl, hn0, hn1, hb1⟩
    have HB1 := hide hb1
    clear hb1
    go_wp2_with fail
    refine (implPutNum_any _ _).mono ?_
    rintro e w2 ⟨rfl, hb2⟩
    have HB2 := hide (Below.trans (unhide HB1) (hb2.mono (unhide HB1).size))
    clear hb2
    go_wp2_with fail
    refine (drawGetNum_any _ _ _ _ _ ((unhide HK).below (unhide HB2) (Nat.le_refl _))).mono ?_
    rintro e w3 ⟨u, i, rfl, hus, hi0, hi1, hb3⟩
    have HB3 := hide (Below.trans (unhide HB2) (hb3.mono (unhide HB2).size))
    clear hb3
    go_wp2_with fail
    refine (implGetNum_any _ _ _ (by omega) hi0 hi1).mono ?_
    rintro e w4 ⟨rfl, hb4⟩
    have HB4 := hide (Below.trans (unhide HB3) (hb4.mono (unhide HB3).size))
    clear hb4
    go_wp2_with fail
    refine (specGetNum_any _ _ _ (by omega) hi0 hi1).mono ?_
    rintro e w5 ⟨rfl, hb5⟩
    have HB5 := hide (Below.trans (unhide HB4) (hb5.mono (unhide HB4).size))
    clear hb5
    go_wp2_with fail
    refine (drawPutText_any _ _ _ _ _ ((unhide HK).below (unhide HB5) (Nat.le_refl _))).mono ?_
    rintro e w6 ⟨a, rfl, has, hb6⟩
    have HB6 := hide (Below.trans (unhide HB5) (hb6.mono (unhide HB5).size))
    clear hb6
    go_wp2_with fail
    refine (implPutText_any _ _ (by omega)).mono ?_
    rintro e w7 ⟨rfl, hb7⟩
    have HB7 := hide (Below.trans (unhide HB6) (hb7.mono (unhide HB6).size))
    clear hb7
    go_wp2_with fail
    refine (drawGetText_any _ _ _ _ _ ((unhide HK).below (unhide HB7) (Nat.le_refl _))).mono ?_
    rintro e w8 ⟨v, k, rfl, hvs, hk0, hk1, hb8⟩
    have HB8 := hide (Below.trans (unhide HB7) (hb8.mono (unhide HB7).size))
    clear hb8
    go_wp2_with fail
    refine (implGetText_any _ _ _ (by omega) hk0 hk1).mono ?_
    rintro e w9 ⟨rfl, hb9⟩
    have HB9 := hide (Below.trans (unhide HB8) (hb9.mono (unhide HB8).size))
    clear hb9
    go_wp2_with fail
    refine (specGetText_any _ _ _ (by omega) hk0 hk1).mono ?_
    rintro e w10 ⟨rfl, hb10⟩
    have HB10 := hide (Below.trans (unhide HB9) (hb10.mono (unhide HB9).size))
    clear hb10 HB1 HB2 HB3 HB4 HB5 HB6 HB7 HB8 HB9
    go_wp2_with fail
    refine (specPutNum_any _ _).mono ?_
    rintro e w11 ⟨rfl, hb11⟩
    have HB11 := hide (Below.trans (unhide HB10) (hb11.mono (unhide HB10).size))
    clear hb11
    go_wp2_with fail
    refine (specPutText_any _ _ (by omega)).mono ?_
    rintro e w12 ⟨rfl, hb12⟩
    have HB12 := hide (Below.trans (unhide HB11) (hb12.mono (unhide HB11).size))
    clear hb12
    go_wp2_with fail
    go_cut [120] from 97 to 120 (fun b wx => b = .bool false ∧ Below w.heap.size w wx)
    case first =>
      have hgl : (bs (getText v.data.toList k).1).size ≤ 1048576 := by rw [bs_size]; have := getText_len v.data.toList k; rw [len_eq] at this; omega
      have hsz := (unhide HB12).size
      clear HK hl hbig hbb hn0 hn1 hus hi0 hi1 has hvs hk0 hk1 HB10 HB11
      by_cases ht : 0 < (getNum u.data.toList i).2
      · have hs1 := slice_back (t := bs (putNum (getNum u.data.toList i).1)) (getNum_back u i ht)
        by_cases he : 0 < (getText v.data.toList k).2
        · have hs2 := slice_back (t := bs (putText (bs (getText v.data.toList k).1).data.toList)) (by rw [data_bs]; exact getText_back v k he)
          go_region_held3 (fun _ => True) (trivial) (first | (go_at_call 6; refine (implPutNum_any _ _).mono ?_; rintro e wa ⟨rfl, hba⟩) | (go_at_call 11; refine (implPutText_any _ _ hgl).mono ?_; rintro e wc ⟨rfl, hbc⟩))
          go_wp2_with fail
          go_meet
          exact ⟨rfl, Below.trans (unhide HB12).drew (Below.trans (Below.mono hba hsz) (Below.mono hbc (Nat.le_trans hsz hba.size)))⟩
        · refine wp_region_held_drew (S := fun _ => True) (by kernel_rfl) trivial (fun _ => ?_)
          refine wpAnyH_take (i := 0) (oi := { dst := some 97, op := Op.move (Operand.tmp 8), type := 3, pos := "laws.go:255", after := #[], guard := none }) (v := .int .i64 (getNum u.data.toList i).2) rfl (by kernel_rfl) (by kernel_rfl) (by kernel_rfl) (fun _ _ _ h => h) (Or.inl ⟨by rfl, fun wz _ => by go_simp⟩) trivial ?_
          simp only [Act.put, List.setIfInBounds_toArray, List.set_cons_zero, List.set_cons_succ]
          refine wpAnyH_take (i := 1) (oi := { dst := some 98, op := Op.binOp BinOp.gtr 3 (Operand.tmp 97) (Operand.const (Value.int IntKind.i64 0)) 3, type := 4, pos := "laws.go:255", after := #[{ on := 0, ground := Ground.data }], guard := none }) (v := .bool true) rfl (by kernel_rfl) (by kernel_rfl) (by kernel_rfl) (fun _ _ _ h => h) (Or.inl ⟨by rfl, fun wz _ => by go_simp⟩) trivial ?_
          simp only [Act.put, List.setIfInBounds_toArray, List.set_cons_zero, List.set_cons_succ]
          refine wpAnyH_take (i := 2) (oi := { dst := some 99, op := Op.move (Operand.tmp 98), type := 4, pos := "laws.go:255", after := #[{ on := 1, ground := Ground.data }], guard := none }) (v := .bool true) rfl (by kernel_rfl) (by kernel_rfl) (by kernel_rfl) (fun _ _ _ h => h) (Or.inl ⟨by rfl, fun wz _ => by go_simp⟩) trivial ?_
          simp only [Act.put, List.setIfInBounds_toArray, List.set_cons_zero, List.set_cons_succ]
          refine wpAnyH_take (i := 3) (oi := { dst := some 100, op := Op.move (Operand.tmp 7), type := 3, pos := "laws.go:255", after := #[{ on := 2, ground := Ground.guard }], guard := some (2, true) }) (v := .int .i64 (getNum u.data.toList i).1) rfl (by kernel_rfl) (by kernel_rfl) (by kernel_rfl) (fun _ _ _ h => h) (Or.inl ⟨by rfl, fun wz _ => by go_simp⟩) trivial ?_
          simp only [Act.put, List.setIfInBounds_toArray, List.set_cons_zero, List.set_cons_succ]
          refine wpAnyH_take (i := 5) (oi := { dst := some 102, op := Op.move (Operand.tmp 5), type := 9, pos := "laws.go:255", after := #[{ on := 2, ground := Ground.guard }], guard := some (2, true) }) (v := .string u) rfl (by kernel_rfl) (by kernel_rfl) (by kernel_rfl) (fun _ _ _ h => h) (Or.inl ⟨by rfl, fun wz _ => by go_simp⟩) trivial ?_
          simp only [Act.put, List.setIfInBounds_toArray, List.set_cons_zero, List.set_cons_succ]
          refine wpAnyH_take (i := 6) (oi := { dst := some 103, op := Op.move (Operand.tmp 6), type := 3, pos := "laws.go:255", after := #[{ on := 2, ground := Ground.guard }], guard := some (2, true) }) (v := .int .i64 i) rfl (by kernel_rfl) (by kernel_rfl) (by kernel_rfl) (fun _ _ _ h => h) (Or.inl ⟨by rfl, fun wz _ => by go_simp⟩) trivial ?_
          simp only [Act.put, List.setIfInBounds_toArray, List.set_cons_zero, List.set_cons_succ]
          refine wpAnyH_take (i := 7) (oi := { dst := some 104, op := Op.move (Operand.tmp 8), type := 3, pos := "laws.go:255", after := #[{ on := 2, ground := Ground.guard }], guard := some (2, true) }) (v := .int .i64 (getNum u.data.toList i).2) rfl (by kernel_rfl) (by kernel_rfl) (by kernel_rfl) (fun _ _ _ h => h) (Or.inl ⟨by rfl, fun wz _ => by go_simp⟩) trivial ?_
          simp only [Act.put, List.setIfInBounds_toArray, List.set_cons_zero, List.set_cons_succ]
          refine wpAnyH_take (i := 8) (oi := { dst := some 105, op := Op.slice 9 (Operand.tmp 102) (some (Operand.tmp 103)) (some (Operand.tmp 104)) none, type := 9, pos := "laws.go:255", after := #[{ on := 5, ground := Ground.data }, { on := 6, ground := Ground.data }, { on := 7, ground := Ground.data }, { on := 2, ground := Ground.guard }], guard := some (2, true) }) (v := .string (bs (putNum (getNum u.data.toList i).1))) rfl (by kernel_rfl) (by kernel_rfl) (by kernel_rfl) (fun _ _ _ h => h) (Or.inl ⟨by rfl, fun wz _ => by go_simp⟩) trivial ?_
          simp only [Act.put, List.setIfInBounds_toArray, List.set_cons_zero, List.set_cons_succ]
          refine wpAnyH_ready (rs := [4]) (by kernel_rfl) (by simp) ?_
          refine AllReadyH.cons (o := { dst := some 101, op := Op.call { callee := Callee.value (Operand.func 6), args := #[Operand.tmp 100], argTypes := #[3] }, type := 9, pos := "laws.go:255", after := #[{ on := 3, ground := Ground.data }, { on := 2, ground := Ground.chain }, { on := 2, ground := Ground.guard }], guard := some (2, true) }) rfl (fun K hK => ?_) AllReadyH.nil
          go_simp
          refine (implPutNum_any _ _).mono ?_
          rintro e wa ⟨rfl, hba⟩
          go_wp2_with fail
          refine hK.out _ _ trivial (fun _ => ?_)
          clear hK K
          refine wpAnyH_take (i := 9) (oi := { dst := some 106, op := Op.binOp BinOp.neq 9 (Operand.tmp 101) (Operand.tmp 105) 9, type := 4, pos := "laws.go:255", after := #[{ on := 4, ground := Ground.data }, { on := 8, ground := Ground.data }, { on := 2, ground := Ground.guard }], guard := some (2, true) }) (v := .bool false) rfl (by kernel_rfl) (by kernel_rfl) (by kernel_rfl) (fun _ _ _ h => h) (Or.inl ⟨by rfl, fun wz _ => by go_simp⟩) trivial ?_
          simp only [Act.put, List.setIfInBounds_toArray, List.set_cons_zero, List.set_cons_succ]
          refine wpAnyH_take (i := 10) (oi := { dst := some 107, op := Op.pick (Operand.tmp 99) (Operand.tmp 106) (Operand.const (Value.bool false)), type := 4, pos := "laws.go:255", after := #[{ on := 2, ground := Ground.data }, { on := 9, ground := Ground.data }], guard := none }) (v := .bool false) rfl (by kernel_rfl) (by kernel_rfl) (by kernel_rfl) (fun _ _ _ h => h) (Or.inl ⟨by rfl, fun wz _ => by go_simp⟩) trivial ?_
          simp only [Act.put, List.setIfInBounds_toArray, List.set_cons_zero, List.set_cons_succ]
          refine wpAnyH_take (i := 11) (oi := { dst := some 108, op := Op.move (Operand.tmp 107), type := 4, pos := "laws.go:255", after := #[{ on := 10, ground := Ground.data }, { on := 4, ground := Ground.chain }], guard := none }) (v := .bool false) rfl (by kernel_rfl) (by kernel_rfl) (by kernel_rfl) (fun _ _ _ h => h) (Or.inl ⟨by rfl, fun wz _ => by go_simp⟩) trivial ?_
          simp only [Act.put, List.setIfInBounds_toArray, List.set_cons_zero, List.set_cons_succ]
          refine wpAnyH_take (i := 12) (oi := { dst := some 109, op := Op.move (Operand.tmp 16), type := 3, pos := "laws.go:255", after := #[{ on := 11, ground := Ground.guard }], guard := some (11, false) }) (v := .int .i64 (getText v.data.toList k).2) rfl (by kernel_rfl) (by kernel_rfl) (by kernel_rfl) (fun _ _ _ h => h) (Or.inl ⟨by rfl, fun wz _ => by go_simp⟩) trivial ?_
          simp only [Act.put, List.setIfInBounds_toArray, List.set_cons_zero, List.set_cons_succ]
          refine wpAnyH_take (i := 13) (oi := { dst := some 110, op := Op.binOp BinOp.gtr 3 (Operand.tmp 109) (Operand.const (Value.int IntKind.i64 0)) 3, type := 4, pos := "laws.go:255", after := #[{ on := 12, ground := Ground.data }, { on := 11, ground := Ground.guard }], guard := some (11, false) }) (v := .bool false) rfl (by kernel_rfl) (by kernel_rfl) (by kernel_rfl) (fun _ _ _ h => h) (Or.inl ⟨by rfl, fun wz _ => by go_simp⟩) trivial ?_
          simp only [Act.put, List.setIfInBounds_toArray, List.set_cons_zero, List.set_cons_succ]
          refine wpAnyH_take (i := 14) (oi := { dst := some 111, op := Op.move (Operand.tmp 110), type := 4, pos := "laws.go:255", after := #[{ on := 13, ground := Ground.data }, { on := 11, ground := Ground.chain }, { on := 11, ground := Ground.guard }], guard := some (11, false) }) (v := .bool false) rfl (by kernel_rfl) (by kernel_rfl) (by kernel_rfl) (fun _ _ _ h => h) (Or.inl ⟨by rfl, fun wz _ => by go_simp⟩) trivial ?_
          simp only [Act.put, List.setIfInBounds_toArray, List.set_cons_zero, List.set_cons_succ]
          refine wpAnyH_take (i := 15) (oi := { dst := some 112, op := Op.move (Operand.tmp 15), type := 9, pos := "laws.go:255", after := #[{ on := 14, ground := Ground.guard }], guard := some (14, true) }) (v := undef) rfl (by kernel_rfl) (by kernel_rfl) (by kernel_rfl) (fun _ _ _ h => h) (Or.inr ⟨by rfl, rfl⟩) trivial ?_
          simp only [Act.put, List.setIfInBounds_toArray, List.set_cons_zero, List.set_cons_succ]
          refine wpAnyH_take (i := 17) (oi := { dst := some 114, op := Op.move (Operand.tmp 13), type := 9, pos := "laws.go:255", after := #[{ on := 14, ground := Ground.guard }], guard := some (14, true) }) (v := undef) rfl (by kernel_rfl) (by kernel_rfl) (by kernel_rfl) (fun _ _ _ h => h) (Or.inr ⟨by rfl, rfl⟩) trivial ?_
          simp only [Act.put, List.setIfInBounds_toArray, List.set_cons_zero, List.set_cons_succ]
          refine wpAnyH_take (i := 18) (oi := { dst := some 115, op := Op.move (Operand.tmp 14), type := 3, pos := "laws.go:255", after := #[{ on := 14, ground := Ground.guard }], guard := some (14, true) }) (v := undef) rfl (by kernel_rfl) (by kernel_rfl) (by kernel_rfl) (fun _ _ _ h => h) (Or.inr ⟨by rfl, rfl⟩) trivial ?_
          simp only [Act.put, List.setIfInBounds_toArray, List.set_cons_zero, List.set_cons_succ]
          refine wpAnyH_take (i := 19) (oi := { dst := some 116, op := Op.move (Operand.tmp 16), type := 3, pos := "laws.go:255", after := #[{ on := 14, ground := Ground.guard }], guard := some (14, true) }) (v := undef) rfl (by kernel_rfl) (by kernel_rfl) (by kernel_rfl) (fun _ _ _ h => h) (Or.inr ⟨by rfl, rfl⟩) trivial ?_
          simp only [Act.put, List.setIfInBounds_toArray, List.set_cons_zero, List.set_cons_succ]
          refine wpAnyH_take (i := 20) (oi := { dst := some 117, op := Op.slice 9 (Operand.tmp 114) (some (Operand.tmp 115)) (some (Operand.tmp 116)) none, type := 9, pos := "laws.go:255", after := #[{ on := 17, ground := Ground.data }, { on := 18, ground := Ground.data }, { on := 19, ground := Ground.data }, { on := 14, ground := Ground.guard }], guard := some (14, true) }) (v := undef) rfl (by kernel_rfl) (by kernel_rfl) (by kernel_rfl) (fun _ _ _ h => h) (Or.inr ⟨by rfl, rfl⟩) trivial ?_
          simp only [Act.put, List.setIfInBounds_toArray, List.set_cons_zero, List.set_cons_succ]
          refine wpAnyH_take (i := 16) (oi := { dst := some 113, op := Op.call { callee := Callee.value (Operand.func 11), args := #[Operand.tmp 112], argTypes := #[9] }, type := 9, pos := "laws.go:255", after := #[{ on := 15, ground := Ground.data }, { on := 14, ground := Ground.chain }, { on := 14, ground := Ground.guard }], guard := some (14, true) }) (v := undef) rfl (by kernel_rfl) (by kernel_rfl) (by kernel_rfl) (fun _ _ _ h => h) (Or.inr ⟨by rfl, rfl⟩) trivial ?_
          simp only [Act.put, List.setIfInBounds_toArray, List.set_cons_zero, List.set_cons_succ]
          refine wpAnyH_take (i := 21) (oi := { dst := some 118, op := Op.binOp BinOp.neq 9 (Operand.tmp 113) (Operand.tmp 117) 9, type := 4, pos := "laws.go:255", after := #[{ on := 16, ground := Ground.data }, { on := 20, ground := Ground.data }, { on := 14, ground := Ground.guard }], guard := some (14, true) }) (v := undef) rfl (by kernel_rfl) (by kernel_rfl) (by kernel_rfl) (fun _ _ _ h => h) (Or.inr ⟨by rfl, rfl⟩) trivial ?_
          simp only [Act.put, List.setIfInBounds_toArray, List.set_cons_zero, List.set_cons_succ]
          refine wpAnyH_take (i := 22) (oi := { dst := some 119, op := Op.pick (Operand.tmp 111) (Operand.tmp 118) (Operand.const (Value.bool false)), type := 4, pos := "laws.go:255", after := #[{ on := 14, ground := Ground.data }, { on := 21, ground := Ground.data }, { on := 11, ground := Ground.guard }], guard := some (11, false) }) (v := .bool false) rfl (by kernel_rfl) (by kernel_rfl) (by kernel_rfl) (fun _ _ _ h => h) (Or.inl ⟨by rfl, fun wz _ => by go_simp⟩) trivial ?_
          simp only [Act.put, List.setIfInBounds_toArray, List.set_cons_zero, List.set_cons_succ]
          refine wpAnyH_take (i := 23) (oi := { dst := some 120, op := Op.pick (Operand.tmp 108) (Operand.const (Value.bool true)) (Operand.tmp 119), type := 4, pos := "laws.go:255", after := #[{ on := 11, ground := Ground.data }, { on := 22, ground := Ground.data }], guard := none }) (v := .bool false) rfl (by kernel_rfl) (by kernel_rfl) (by kernel_rfl) (fun _ _ _ h => h) (Or.inl ⟨by rfl, fun wz _ => by go_simp⟩) trivial ?_
          simp only [Act.put, List.setIfInBounds_toArray, List.set_cons_zero, List.set_cons_succ]
          refine wpAnyH_done (by kernel_rfl) ?_ _
          go_wp2_with fail
          go_meet
          exact ⟨rfl, Below.trans (unhide HB12).drew (Below.mono hba hsz)⟩
      · by_cases he : 0 < (getText v.data.toList k).2
        · have hs2 := slice_back (t := bs (putText (bs (getText v.data.toList k).1).data.toList)) (by rw [data_bs]; exact getText_back v k he)
          refine wp_region_held_drew (S := fun _ => True) (by kernel_rfl) trivial (fun _ => ?_)
          refine wpAnyH_take (i := 0) (oi := { dst := some 97, op := Op.move (Operand.tmp 8), type := 3, pos := "laws.go:255", after := #[], guard := none }) (v := .int .i64 (getNum u.data.toList i).2) rfl (by kernel_rfl) (by kernel_rfl) (by kernel_rfl) (fun _ _ _ h => h) (Or.inl ⟨by rfl, fun wz _ => by go_simp⟩) trivial ?_
          simp only [Act.put, List.setIfInBounds_toArray, List.set_cons_zero, List.set_cons_succ]
          refine wpAnyH_take (i := 1) (oi := { dst := some 98, op := Op.binOp BinOp.gtr 3 (Operand.tmp 97) (Operand.const (Value.int IntKind.i64 0)) 3, type := 4, pos := "laws.go:255", after := #[{ on := 0, ground := Ground.data }], guard := none }) (v := .bool false) rfl (by kernel_rfl) (by kernel_rfl) (by kernel_rfl) (fun _ _ _ h => h) (Or.inl ⟨by rfl, fun wz _ => by go_simp⟩) trivial ?_
          simp only [Act.put, List.setIfInBounds_toArray, List.set_cons_zero, List.set_cons_succ]
          refine wpAnyH_take (i := 2) (oi := { dst := some 99, op := Op.move (Operand.tmp 98), type := 4, pos := "laws.go:255", after := #[{ on := 1, ground := Ground.data }], guard := none }) (v := .bool false) rfl (by kernel_rfl) (by kernel_rfl) (by kernel_rfl) (fun _ _ _ h => h) (Or.inl ⟨by rfl, fun wz _ => by go_simp⟩) trivial ?_
          simp only [Act.put, List.setIfInBounds_toArray, List.set_cons_zero, List.set_cons_succ]
          refine wpAnyH_take (i := 3) (oi := { dst := some 100, op := Op.move (Operand.tmp 7), type := 3, pos := "laws.go:255", after := #[{ on := 2, ground := Ground.guard }], guard := some (2, true) }) (v := undef) rfl (by kernel_rfl) (by kernel_rfl) (by kernel_rfl) (fun _ _ _ h => h) (Or.inr ⟨by rfl, rfl⟩) trivial ?_
          simp only [Act.put, List.setIfInBounds_toArray, List.set_cons_zero, List.set_cons_succ]
          refine wpAnyH_take (i := 5) (oi := { dst := some 102, op := Op.move (Operand.tmp 5), type := 9, pos := "laws.go:255", after := #[{ on := 2, ground := Ground.guard }], guard := some (2, true) }) (v := undef) rfl (by kernel_rfl) (by kernel_rfl) (by kernel_rfl) (fun _ _ _ h => h) (Or.inr ⟨by rfl, rfl⟩) trivial ?_
          simp only [Act.put, List.setIfInBounds_toArray, List.set_cons_zero, List.set_cons_succ]
          refine wpAnyH_take (i := 6) (oi := { dst := some 103, op := Op.move (Operand.tmp 6), type := 3, pos := "laws.go:255", after := #[{ on := 2, ground := Ground.guard }], guard := some (2, true) }) (v := undef) rfl (by kernel_rfl) (by kernel_rfl) (by kernel_rfl) (fun _ _ _ h => h) (Or.inr ⟨by rfl, rfl⟩) trivial ?_
          simp only [Act.put, List.setIfInBounds_toArray, List.set_cons_zero, List.set_cons_succ]
          refine wpAnyH_take (i := 7) (oi := { dst := some 104, op := Op.move (Operand.tmp 8), type := 3, pos := "laws.go:255", after := #[{ on := 2, ground := Ground.guard }], guard := some (2, true) }) (v := undef) rfl (by kernel_rfl) (by kernel_rfl) (by kernel_rfl) (fun _ _ _ h => h) (Or.inr ⟨by rfl, rfl⟩) trivial ?_
          simp only [Act.put, List.setIfInBounds_toArray, List.set_cons_zero, List.set_cons_succ]
          refine wpAnyH_take (i := 8) (oi := { dst := some 105, op := Op.slice 9 (Operand.tmp 102) (some (Operand.tmp 103)) (some (Operand.tmp 104)) none, type := 9, pos := "laws.go:255", after := #[{ on := 5, ground := Ground.data }, { on := 6, ground := Ground.data }, { on := 7, ground := Ground.data }, { on := 2, ground := Ground.guard }], guard := some (2, true) }) (v := undef) rfl (by kernel_rfl) (by kernel_rfl) (by kernel_rfl) (fun _ _ _ h => h) (Or.inr ⟨by rfl, rfl⟩) trivial ?_
          simp only [Act.put, List.setIfInBounds_toArray, List.set_cons_zero, List.set_cons_succ]
          refine wpAnyH_take (i := 4) (oi := { dst := some 101, op := Op.call { callee := Callee.value (Operand.func 6), args := #[Operand.tmp 100], argTypes := #[3] }, type := 9, pos := "laws.go:255", after := #[{ on := 3, ground := Ground.data }, { on := 2, ground := Ground.chain }, { on := 2, ground := Ground.guard }], guard := some (2, true) }) (v := undef) rfl (by kernel_rfl) (by kernel_rfl) (by kernel_rfl) (fun _ _ _ h => h) (Or.inr ⟨by rfl, rfl⟩) trivial ?_
          simp only [Act.put, List.setIfInBounds_toArray, List.set_cons_zero, List.set_cons_succ]
          refine wpAnyH_take (i := 9) (oi := { dst := some 106, op := Op.binOp BinOp.neq 9 (Operand.tmp 101) (Operand.tmp 105) 9, type := 4, pos := "laws.go:255", after := #[{ on := 4, ground := Ground.data }, { on := 8, ground := Ground.data }, { on := 2, ground := Ground.guard }], guard := some (2, true) }) (v := undef) rfl (by kernel_rfl) (by kernel_rfl) (by kernel_rfl) (fun _ _ _ h => h) (Or.inr ⟨by rfl, rfl⟩) trivial ?_
          simp only [Act.put, List.setIfInBounds_toArray, List.set_cons_zero, List.set_cons_succ]
          refine wpAnyH_take (i := 10) (oi := { dst := some 107, op := Op.pick (Operand.tmp 99) (Operand.tmp 106) (Operand.const (Value.bool false)), type := 4, pos := "laws.go:255", after := #[{ on := 2, ground := Ground.data }, { on := 9, ground := Ground.data }], guard := none }) (v := .bool false) rfl (by kernel_rfl) (by kernel_rfl) (by kernel_rfl) (fun _ _ _ h => h) (Or.inl ⟨by rfl, fun wz _ => by go_simp⟩) trivial ?_
          simp only [Act.put, List.setIfInBounds_toArray, List.set_cons_zero, List.set_cons_succ]
          refine wpAnyH_take (i := 11) (oi := { dst := some 108, op := Op.move (Operand.tmp 107), type := 4, pos := "laws.go:255", after := #[{ on := 10, ground := Ground.data }, { on := 4, ground := Ground.chain }], guard := none }) (v := .bool false) rfl (by kernel_rfl) (by kernel_rfl) (by kernel_rfl) (fun _ _ _ h => h) (Or.inl ⟨by rfl, fun wz _ => by go_simp⟩) trivial ?_
          simp only [Act.put, List.setIfInBounds_toArray, List.set_cons_zero, List.set_cons_succ]
          refine wpAnyH_take (i := 12) (oi := { dst := some 109, op := Op.move (Operand.tmp 16), type := 3, pos := "laws.go:255", after := #[{ on := 11, ground := Ground.guard }], guard := some (11, false) }) (v := .int .i64 (getText v.data.toList k).2) rfl (by kernel_rfl) (by kernel_rfl) (by kernel_rfl) (fun _ _ _ h => h) (Or.inl ⟨by rfl, fun wz _ => by go_simp⟩) trivial ?_
          simp only [Act.put, List.setIfInBounds_toArray, List.set_cons_zero, List.set_cons_succ]
          refine wpAnyH_take (i := 13) (oi := { dst := some 110, op := Op.binOp BinOp.gtr 3 (Operand.tmp 109) (Operand.const (Value.int IntKind.i64 0)) 3, type := 4, pos := "laws.go:255", after := #[{ on := 12, ground := Ground.data }, { on := 11, ground := Ground.guard }], guard := some (11, false) }) (v := .bool true) rfl (by kernel_rfl) (by kernel_rfl) (by kernel_rfl) (fun _ _ _ h => h) (Or.inl ⟨by rfl, fun wz _ => by go_simp⟩) trivial ?_
          simp only [Act.put, List.setIfInBounds_toArray, List.set_cons_zero, List.set_cons_succ]
          refine wpAnyH_take (i := 14) (oi := { dst := some 111, op := Op.move (Operand.tmp 110), type := 4, pos := "laws.go:255", after := #[{ on := 13, ground := Ground.data }, { on := 11, ground := Ground.chain }, { on := 11, ground := Ground.guard }], guard := some (11, false) }) (v := .bool true) rfl (by kernel_rfl) (by kernel_rfl) (by kernel_rfl) (fun _ _ _ h => h) (Or.inl ⟨by rfl, fun wz _ => by go_simp⟩) trivial ?_
          simp only [Act.put, List.setIfInBounds_toArray, List.set_cons_zero, List.set_cons_succ]
          refine wpAnyH_take (i := 15) (oi := { dst := some 112, op := Op.move (Operand.tmp 15), type := 9, pos := "laws.go:255", after := #[{ on := 14, ground := Ground.guard }], guard := some (14, true) }) (v := .string (bs (getText v.data.toList k).1)) rfl (by kernel_rfl) (by kernel_rfl) (by kernel_rfl) (fun _ _ _ h => h) (Or.inl ⟨by rfl, fun wz _ => by go_simp⟩) trivial ?_
          simp only [Act.put, List.setIfInBounds_toArray, List.set_cons_zero, List.set_cons_succ]
          refine wpAnyH_take (i := 17) (oi := { dst := some 114, op := Op.move (Operand.tmp 13), type := 9, pos := "laws.go:255", after := #[{ on := 14, ground := Ground.guard }], guard := some (14, true) }) (v := .string v) rfl (by kernel_rfl) (by kernel_rfl) (by kernel_rfl) (fun _ _ _ h => h) (Or.inl ⟨by rfl, fun wz _ => by go_simp⟩) trivial ?_
          simp only [Act.put, List.setIfInBounds_toArray, List.set_cons_zero, List.set_cons_succ]
          refine wpAnyH_take (i := 18) (oi := { dst := some 115, op := Op.move (Operand.tmp 14), type := 3, pos := "laws.go:255", after := #[{ on := 14, ground := Ground.guard }], guard := some (14, true) }) (v := .int .i64 k) rfl (by kernel_rfl) (by kernel_rfl) (by kernel_rfl) (fun _ _ _ h => h) (Or.inl ⟨by rfl, fun wz _ => by go_simp⟩) trivial ?_
          simp only [Act.put, List.setIfInBounds_toArray, List.set_cons_zero, List.set_cons_succ]
          refine wpAnyH_take (i := 19) (oi := { dst := some 116, op := Op.move (Operand.tmp 16), type := 3, pos := "laws.go:255", after := #[{ on := 14, ground := Ground.guard }], guard := some (14, true) }) (v := .int .i64 (getText v.data.toList k).2) rfl (by kernel_rfl) (by kernel_rfl) (by kernel_rfl) (fun _ _ _ h => h) (Or.inl ⟨by rfl, fun wz _ => by go_simp⟩) trivial ?_
          simp only [Act.put, List.setIfInBounds_toArray, List.set_cons_zero, List.set_cons_succ]
          refine wpAnyH_take (i := 20) (oi := { dst := some 117, op := Op.slice 9 (Operand.tmp 114) (some (Operand.tmp 115)) (some (Operand.tmp 116)) none, type := 9, pos := "laws.go:255", after := #[{ on := 17, ground := Ground.data }, { on := 18, ground := Ground.data }, { on := 19, ground := Ground.data }, { on := 14, ground := Ground.guard }], guard := some (14, true) }) (v := .string (bs (putText (bs (getText v.data.toList k).1).data.toList))) rfl (by kernel_rfl) (by kernel_rfl) (by kernel_rfl) (fun _ _ _ h => h) (Or.inl ⟨by rfl, fun wz _ => by go_simp⟩) trivial ?_
          simp only [Act.put, List.setIfInBounds_toArray, List.set_cons_zero, List.set_cons_succ]
          refine wpAnyH_ready (rs := [16]) (by kernel_rfl) (by simp) ?_
          refine AllReadyH.cons (o := { dst := some 113, op := Op.call { callee := Callee.value (Operand.func 11), args := #[Operand.tmp 112], argTypes := #[9] }, type := 9, pos := "laws.go:255", after := #[{ on := 15, ground := Ground.data }, { on := 14, ground := Ground.chain }, { on := 14, ground := Ground.guard }], guard := some (14, true) }) rfl (fun K hK => ?_) AllReadyH.nil
          go_simp
          refine (implPutText_any _ _ hgl).mono ?_
          rintro e wc ⟨rfl, hbc⟩
          go_wp2_with fail
          refine hK.out _ _ trivial (fun _ => ?_)
          clear hK K
          refine wpAnyH_take (i := 21) (oi := { dst := some 118, op := Op.binOp BinOp.neq 9 (Operand.tmp 113) (Operand.tmp 117) 9, type := 4, pos := "laws.go:255", after := #[{ on := 16, ground := Ground.data }, { on := 20, ground := Ground.data }, { on := 14, ground := Ground.guard }], guard := some (14, true) }) (v := .bool false) rfl (by kernel_rfl) (by kernel_rfl) (by kernel_rfl) (fun _ _ _ h => h) (Or.inl ⟨by rfl, fun wz _ => by go_simp⟩) trivial ?_
          simp only [Act.put, List.setIfInBounds_toArray, List.set_cons_zero, List.set_cons_succ]
          refine wpAnyH_take (i := 22) (oi := { dst := some 119, op := Op.pick (Operand.tmp 111) (Operand.tmp 118) (Operand.const (Value.bool false)), type := 4, pos := "laws.go:255", after := #[{ on := 14, ground := Ground.data }, { on := 21, ground := Ground.data }, { on := 11, ground := Ground.guard }], guard := some (11, false) }) (v := .bool false) rfl (by kernel_rfl) (by kernel_rfl) (by kernel_rfl) (fun _ _ _ h => h) (Or.inl ⟨by rfl, fun wz _ => by go_simp⟩) trivial ?_
          simp only [Act.put, List.setIfInBounds_toArray, List.set_cons_zero, List.set_cons_succ]
          refine wpAnyH_take (i := 23) (oi := { dst := some 120, op := Op.pick (Operand.tmp 108) (Operand.const (Value.bool true)) (Operand.tmp 119), type := 4, pos := "laws.go:255", after := #[{ on := 11, ground := Ground.data }, { on := 22, ground := Ground.data }], guard := none }) (v := .bool false) rfl (by kernel_rfl) (by kernel_rfl) (by kernel_rfl) (fun _ _ _ h => h) (Or.inl ⟨by rfl, fun wz _ => by go_simp⟩) trivial ?_
          simp only [Act.put, List.setIfInBounds_toArray, List.set_cons_zero, List.set_cons_succ]
          refine wpAnyH_done (by kernel_rfl) ?_ _
          go_wp2_with fail
          go_meet
          exact ⟨rfl, Below.trans (unhide HB12).drew (Below.mono hbc hsz)⟩
        · have hd1 : decide (0 < (getNum u.data.toList i).2) = false := by simpa using ht
          have hd2 : decide (0 < (getText v.data.toList k).2) = false := by simpa using he
          clear ht he
          go_quiet (fail)
          go_wp2_with fail
          go_meet
          exact ⟨rfl, below_drewN (unhide HB12) _⟩
    case rest =>
      obtain ⟨rfl, hbc⟩ := hcut
      have HBC := hide hbc
      clear hbc HB10 HB11 HB12 HK hk0 hk1 hvs hi0 hi1 hus hbb hbig
      have hcs : (ByteArray.mk #[97]).size = 1 := rfl
      have hcs2 : (ByteArray.mk #[98]).size = 1 := rfl
      have hpl : (bs (putNum n)).size ≤ 5 := by rw [bs_size]; exact putNum_le5 n
      have hql := putText_le a
      have hjt : Hid (a.size ≤ 2000 → (getText (ByteArray.mk #[97] ++ bs (putText a.data.toList) ++ ByteArray.mk #[98]).data.toList 1) = (a.data.toList, 1 + ((bs (putText a.data.toList)).size : Int))) := hide (fun h => by
        rw [join_ab, data_bs, getText_put a.data.toList (by rw [len_eq]; exact h), bs_size]; simp)
      have hba : Hid (bs a.data.toList = a) := hide (WideShapes.bytes_inj (by simp [bs]))
      have tail : ∀ (fr : Array Value) (wx : World), True := fun _ _ => trivial
      clear tail
      by_cases hin : 0 ≤ n ∧ n ≤ 4000000000
      · have hg1 : Hid (getNum (ByteArray.mk #[97] ++ bs (putNum n) ++ ByteArray.mk #[98]).data.toList 1 = (n, 1 + ((bs (putNum n)).size : Int))) := hide (by
          obtain ⟨N, rfl⟩ := Int.eq_ofNat_of_zero_le hin.1
          have e : putNum (N : Int) = put N := by rw [putNum, if_pos hin, Int.toNat_natCast]
          rw [join_ab, data_bs, e, getNum_put N (by omega), bs_size]; simp)
        have hemp : (bs (putNum n)).toList.isEmpty = false := str_full (by
          obtain ⟨N, rfl⟩ := Int.eq_ofNat_of_zero_le hin.1
          rw [bs_size, putNum, if_pos hin, Int.toNat_natCast]
          have := put_pos N; omega)
        clear hin
        go_wp2_with fail
        have hcall := implGetNum_any (ByteArray.mk #[97] ++ bs (putNum n) ++ ByteArray.mk #[98]) 1 wc (by simp only [ByteArray.size_append]; omega) (by decide) (by decide)
        rw [unhide hg1] at hcall
        refine hcall.mono ?_
        clear hcall
        rintro e wd ⟨rfl, hbd⟩
        have HBD := hide (Below.trans (unhide HBC) (hbd.mono (unhide HBC).size))
        clear hbd
        by_cases ha2 : a.size ≤ 2000
        · have hlt : (bs (putText a.data.toList)).toList.isEmpty = false := str_full (fun e => by
            rw [bs_size] at e
            have := putText_nil.1 (List.length_eq_zero_iff.1 e)
            rw [len_eq] at this; omega)
          go_wp2_with fail
          have hcall := implGetText_any (ByteArray.mk #[97] ++ bs (putText a.data.toList) ++ ByteArray.mk #[98]) 1 wd (by simp only [ByteArray.size_append]; omega) (by decide) (by decide)
          rw [unhide hjt ha2, unhide hba] at hcall
          refine hcall.mono ?_
          clear hcall
          rintro e we ⟨rfl, hbe⟩
          have HBE := hide (Below.trans (unhide HBD) (hbe.mono (unhide HBD).size))
          clear hbe
          go_wp2
          go_ret
          exact ⟨rfl, unhide HBE⟩
        · have hlt : (bs (putText a.data.toList)).toList.isEmpty = true := str_empty (by rw [bs_size, putText_nil.2 (by rw [len_eq]; omega)]; rfl)
          have ha3 : (2000 : Int) < (a.size : Int) := by omega
          go_wp2
          go_ret
          exact ⟨rfl, unhide HBD⟩
      · have hemp : (bs (putNum n)).toList.isEmpty = true := str_empty (by rw [bs_size, putNum, if_neg hin]; rfl)
        clear hin
        by_cases ha2 : a.size ≤ 2000
        · have hlt : (bs (putText a.data.toList)).toList.isEmpty = false := str_full (fun e => by
            rw [bs_size] at e
            have := putText_nil.1 (List.length_eq_zero_iff.1 e)
            rw [len_eq] at this; omega)
          go_wp2_with fail
          have hcall := implGetText_any (ByteArray.mk #[97] ++ bs (putText a.data.toList) ++ ByteArray.mk #[98]) 1 wc (by simp only [ByteArray.size_append]; omega) (by decide) (by decide)
          rw [unhide hjt ha2, unhide hba] at hcall
          refine hcall.mono ?_
          clear hcall
          rintro e we ⟨rfl, hbe⟩
          have HBE := hide (Below.trans (unhide HBC) (hbe.mono (unhide HBC).size))
          clear hbe
          go_wp2
          go_ret
          exact ⟨rfl, unhide HBE⟩
        · have hlt : (bs (putText a.data.toList)).toList.isEmpty = true := str_empty (by rw [bs_size, putText_nil.2 (by rw [len_eq]; omega)]; rfl)
          have ha3 : (2000 : Int) < (a.size : Int) := by omega
          go_wp2
          go_ret
          exact ⟨rfl, unhide HBC⟩
  · have hbb : bigB len0 = true := by simp [bigB]; omega
    go_enter Try.func3, Try.ntmps3
    go_wp2_with fail
    refine (big_any _ _ _ _ hl).mono ?_
    rintro e wb ⟨rfl, rfl⟩
    go_wp2
    go_ret
    exact ⟨rfl, Below.refl _ _⟩

set_option maxRecDepth 100000 in
theorem lifted (os : Os) (started : os.Started) (H : Type) (enc : TypeId × Value → H) :
    ReturnsInHanded {} Try.checked os 3 .any (Rows.fnNumsSpec.pre6 enc Try.prog Try.f3 Rows.fnNumsRow.domain false) (Rows.fnNumsSpec.post enc Try.prog Try.f3 false true false false) := by
  refine returnsInHanded_of_change (C := Try.checked) own started (by kernel_rfl) Try.func3
    (ChangeSpec.witness6 (enc := enc) (C := Try.checked) false ⟨#[], #[.slice none 0 0], []⟩ 8 (by kernel_rfl) (by kernel_rfl) (by kernel_rfl) (by kernel_rfl)) ?_
  intro W base args ds gs before hval0 hW hcnd _
  have hval : ∀ (j : Nat) t v, Try.f3.params[j]? = some t → args[j]? = some v → Value.okWide Try.prog W .any base t v := hval0
  have hW' := hW
  obtain ⟨p, q, hA0, hV, rfl, hfz, hnd⟩ := hW
  have hA : DataW.TrodAll enc Try.prog W 0 (fun _ => true) true Try.f3.params.toList args.toList ds p := hA0
  rw [Try.params3] at hA hval
  obtain ⟨v0, vs0, d0, ds0, p0, q0, hargs, rfl, rfl, h0, r0⟩ := trodAll_cons hA
  obtain ⟨rfl, rfl, rfl⟩ := trodAll_nil r0
  obtain rfl : args = #[v0] := by cases args; simp_all
  obtain ⟨rfl, rfl⟩ := trodVars_none hV
  obtain ⟨a0, len0, cap0, rfl⟩ := okWide_slice Try.underlying22 (hval 0 22 v0 rfl rfl)
  have k0 := h0
  have lt0 : ∀ x ∈ p0, x.block < W.heap.size := by obtain ⟨m, hm⟩ := k0; exact DataW.trod_lt m _ _ _ hm
  obtain ⟨z0, w0⟩ : ∃ zs, IsRow W a0 len0 cap0 zs := by
    obtain ⟨fuel, hf⟩ := h0
    rcases open_ints Try.underlying22 Try.underlying5 (by kernel_rfl) hf with ⟨hcs, _⟩ | ⟨x, l, c, zs, hcs, _, hl, hm, hz, _, hcell, hwz⟩
    · simp [Value.cells] at hcs
      obtain ⟨rfl, rfl, rfl⟩ := hcs
      exact ⟨[], .inl ⟨rfl, rfl, rfl, rfl⟩⟩
    · simp [Value.cells] at hcs
      obtain ⟨rfl, rfl, rfl⟩ := hcs
      exact ⟨zs, .inr ⟨_, rfl, hl, hm, by simpa using hz, hcell, hwz⟩⟩
  clear hA0 hval0
  refine (walk a0 len0 cap0 z0 W w0).mono fun e W' ⟨he, bel⟩ => ?_
  subst he
  exact ⟨_, rfl, _, _, _, [], _, [], hW', trodAll_mk1 (shut_bool Try.underlying4 _), (trodAll_cons_mk (Below.trod laidOut (by kernel_rfl) (of_decide_eq_true (by kernel_rfl)) k0 bel lt0) trodAll_mk0), rfl, bel.frame _, fun h => by cases h⟩

theorem over : Rows.fnNumsRow.holds Try.pinned (OpenSpec.ofChange Rows.fnNumsSpec) :=
  OpenClaim.holds_of_wide 3 Try.f3 rfl rfl rfl rfl rfl rfl rfl ⟨rfl, rfl, rfl, rfl, rfl⟩ rfl rfl rfl rfl rfl (by kernel_rfl) Try.func3 (by kernel_rfl)
    (of_decide_eq_true (by kernel_rfl)) (by unfold Func.isWrapper; first | (rw [if_pos (by decide +kernel)]; kernel_rfl) | (rw [if_neg (by decide +kernel)]; exact ⟨rfl, rfl⟩))
    (fun os started H enc _ => lifted os started H enc)
end Go.Proofs.Ytfmhibkgmcafgaa.fnNums

namespace Go.Proofs.Ytfmhibkgmcafgaa
theorem fnNums_holds : Rows.FnNumsSaid := fnNums.over
#print axioms fnNums_holds
end Go.Proofs.Ytfmhibkgmcafgaa
