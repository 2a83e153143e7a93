/-
  What the program answers of a log with one record more, cut off by a byte, spoilt: the contracts at its end, all at once.
-/
import Derived.Test.YtobpjegfgegkcaaGreatDoorJouN
namespace Go.Proofs.YtobpjegfgegkcaaGreatDoor
open Go.RowKit
set_option linter.unusedVariables false
/-- what Read answers, as to how many there are and where they end -/
def RdAns (n : Nat) (k : Int) (w : World) (e : Ending) (w' : World) : Prop := ∃ ao c, e = .returned (.tuple #[.slice ao n c, .int .i64 k]) ∧ Below w.heap.size w w'
theorem read_ans (s : ByteArray) (hs : s.size ≤ 1048576) (l : List Rc) (k : Int) (h : readV s = (l, k)) (wx : World) : Calls Tryz.prog 6 #[.string s] wx fun e w' => RdAns l.length k wx e w' := by
  have C := implRead_any s wx hs
  rw [h] at C
  refine C.mono ?_
  rintro e w' ⟨v, rfl, ho, hb⟩
  obtain ⟨ao, c, rfl, _, _, _⟩ := jown_row ho
  exact ⟨ao, c, rfl, hb⟩
theorem get_ans (r : Rc) (ho : recOk r = true) (wx : World) : Calls Tryz.prog 10 #[.string (bs (putRec r))] wx fun e w' => e = .returned (.tuple #[rcv r, .bool true]) ∧ Below wx.heap.size wx w' := by
  have hl := putRec_len (r := r)
  have C := implGetRec_any (bs (putRec r)) wx (by rw [bs_size]; omega)
  rw [show gotRec (bs (putRec r)).data.toList = gotRec (putRec r) from rfl, gotRec_put ho] at C
  exact C
theorem slice_cut (M : List UInt8) (sM : ByteArray) (hsM : bs M = sM) (hm : 1 ≤ M.length) : ∀ wx : World, (Instr.slice 9 (.string sM) none (some (.int .i64 ((sM.size : Int) - 1))) none).run Tryz.prog wx = .ok (.string (bs (M.take (M.length - 1)))) wx := fun wx => by
  have hzM := bs_size M
  have := run_slice_string_to_if (P := Tryz.prog) wx 9 sM .i64 ((sM.size : Int) - 1) Tryz.underlying9
  rw [hsM] at hzM
  rw [this, if_pos (by omega), show ((sM.size : Int) - 1).toNat = M.length - 1 from by omega, ← hsM]
  have h5 := extract_pre (bs M) 0 (M.length - 1)
  rw [Nat.zero_add] at h5
  rw [h5]
  rfl
/-- all of it, of a text M, its bytes sM and the record's bytes pR -/
structure JouEnd (rl : List Rc) (r : Rc) (E : Nat) (M pR : List UInt8) (sM : ByteArray) : Prop where
  get : ∀ wx, Calls Tryz.prog 10 #[.string (bs pR)] wx fun e w' => e = .returned (.tuple #[rcv r, .bool true]) ∧ Below wx.heap.size wx w'
  more : ∀ wx, Calls Tryz.prog 6 #[.string sM] wx fun e w' => RdAns (rl.length + 1) (sM.size : Int) wx e w'
  cut : ∀ wx, Calls Tryz.prog 6 #[.string (bs (M.take (M.length - 1)))] wx fun e w' => RdAns rl.length (E : Int) wx e w'
  spoilt : ∀ (i : Nat) (b : UInt8) (h1 : i < M.length), M.length - pR.length ≤ i → b ≠ M[i] → ∀ wx, Calls Tryz.prog 6 #[.string (bs (M.set i b))] wx fun e w' => RdAns rl.length (E : Int) wx e w'
  slice : ∀ wx : World, (Instr.slice 9 (.string sM) none (some (.int .i64 ((sM.size : Int) - 1))) none).run Tryz.prog wx = .ok (.string (bs (M.take (M.length - 1)))) wx
  size : sM.size = M.length
  list : sM.data.toList = M
  lo : 1 ≤ pR.length
  le : pR.length ≤ M.length
  hi : M.length ≤ 430
  small : (bs pR).size = pR.length
theorem jou_end (rl : List Rc) (r : Rc) (E : Nat) (hok : allOk rl) (ho : recOk r = true) (hfe : (flat rl).length = E) (hE : E ≤ 400) :
    ∃ M pR sM, flat rl ++ entry r = M ∧ putRec r = pR ∧ bs M = sM ∧ JouEnd rl r E M pR sM := by
  have hpp := putRec_pos ho
  have hpl := putRec_len (r := r)
  have hel := entry_len r
  have hef : (putRec r).length ≤ (entry r).length := by rw [entry_form]; simp only [List.length_append]; omega
  have hml : (flat rl ++ entry r).length = E + (entry r).length := by rw [List.length_append, hfe]
  refine ⟨_, _, _, rfl, rfl, rfl, get_ans r ho, ?_, ?_, ?_, slice_cut _ _ rfl (by omega), bs_size _, rfl, hpp, by omega, by omega, bs_size _⟩
  · intro wx
    have h := jou_more rl r hok ho (by omega)
    have := read_ans (bs (flat rl ++ entry r)) (by rw [bs_size]; omega) _ _ h wx
    rw [show (rl ++ [r]).length = rl.length + 1 by simp, ← bs_size] at this
    exact this
  · intro wx
    have h := jou_cut rl r hok ho (by omega)
    rw [hfe] at h
    exact read_ans _ (by rw [bs_size, List.length_take]; omega) _ _ h wx
  · intro i b h1 h0 hb wx
    have h := jou_spoilt rl r i b hok ho (by omega) h0 h1 hb
    rw [hfe] at h
    exact read_ans _ (by rw [bs_size, List.length_set]; omega) _ _ h wx
theorem spoilt_at {rl : List Rc} {r : Rc} {E : Nat} {M pR : List UInt8} {sM : ByteArray} (J : JouEnd rl r E M pR sM) (I : Nat) (hI : I < sM.data.toList.length) (h0 : M.length - pR.length ≤ I) (b : UInt8) (hb : b ≠ sM.data.toList[I]) (wx : World) :
    Calls Tryz.prog 6 #[.string (bs (sM.data.toList.set I b))] wx fun e w' => RdAns rl.length (E : Int) wx e w' := by
  have hl := J.list
  have h1 : I < M.length := by rw [← hl]; exact hI
  have hb' : b ≠ M[I] := by
    intro e
    apply hb
    rw [e]
    congr 1
    exact hl.symm
  have := J.spoilt I b h1 h0 hb' wx
  rw [← hl] at this
  exact this
end Go.Proofs.YtobpjegfgegkcaaGreatDoor
