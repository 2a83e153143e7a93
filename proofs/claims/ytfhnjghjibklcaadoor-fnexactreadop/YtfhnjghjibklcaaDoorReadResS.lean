/-
  An amount read from its text: what the model's ReadRes answers; a walk over the dump.
-/
import Derived.Test.YtfhnjghjibklcaaDoorRes
import Derived.Test.YtfhnjghjibklcaaDoorReadDecS
import Derived.Deep.RegionWith
import Derived.Deep.RegionHeld3
namespace Go.Proofs.YtfhnjghjibklcaaDoor
open Go.RowKit
set_option linter.unusedVariables false

/-- where the first x stands; the length where there is none -/
def xAt : List UInt8 → Nat
  | [] => 0
  | b :: t => if b = 120 then 0 else xAt t + 1
theorem xAt_le : ∀ l : List UInt8, xAt l ≤ l.length
  | [] => Nat.le_refl _
  | b :: t => by rw [xAt]; split <;> simp; exact xAt_le t
theorem xAt_hit : ∀ (l : List UInt8) (k : Nat) (h : k < l.length), (∀ j (hj : j < k), l[j]'(by omega) ≠ 120) → l[k] = 120 → xAt l = k
  | b :: t, 0, _, _, e => by simp at e; simp [xAt, e]
  | b :: t, k + 1, h, hn, e => by
    have h0 := hn 0 (by omega)
    simp at h0
    rw [xAt, if_neg h0, xAt_hit t k (by simpa using h) (fun j hj => by have := hn (j + 1) (by omega); simpa using this) (by simpa using e)]
theorem xAt_none : ∀ (l : List UInt8), (∀ j (hj : j < l.length), l[j] ≠ 120) → xAt l = l.length
  | [], _ => rfl
  | b :: t, hn => by
    have h0 := hn 0 (by simp)
    simp at h0
    rw [xAt, if_neg h0, xAt_none t (fun j hj => by have := hn (j + 1) (by simpa using hj); simpa using this)]; rfl
def readM (l : List UInt8) : Int := if xAt l < l.length then readDec (l.take (xAt l)) else -1
def readC (l : List UInt8) : Int := if xAt l < l.length then readDec (l.drop (xAt l + 1)) else -1
def readROk (l : List UInt8) : Bool := resOk (readM l) (readC l)
def readRV (l : List UInt8) : Value := if readROk l then rv (readM l) (readC l) else rv 0 0
theorem ext_take (s : ByteArray) (k : Nat) (h : k ≤ s.size) : (s.extract 0 k).data.toList = s.data.toList.take k := by simp
theorem ext_drop (s : ByteArray) (k : Nat) : (s.extract k s.size).data.toList = s.data.toList.drop k := by simp; exact List.take_of_length_le (by simp)
set_option maxRecDepth 100000 in
set_option maxHeartbeats 1000000 in
theorem specReadRes_any (s : ByteArray) (w : World) (hs : s.size ≤ 1048576) :
    Calls Tryd.prog 13 #[.string s] w fun e w' => e = .returned (.tuple #[readRV s.data.toList, .bool (readROk s.data.toList)]) ∧ Below w.heap.size w w' := by
  go_enter Tryd.func13, Tryd.ntmps13
  go_wp2
  go_loopw [4, 5] (fun i _ wr => ∃ k : Nat, k ≤ s.size ∧ i = .int .i64 k ∧ (∀ j (hj : j < s.size), j < k → s[j].toNat ≠ 120) ∧ wr = w.alloc (.cells #[.int .i64 0, .int .i64 0] 23)) (fun i _ _ => s.size - (intOf i).toNat)
  case atStart => exact ⟨0, Nat.zero_le _, rfl, fun j _ h => absurd h (by omega), rfl⟩
  case round =>
    obtain ⟨k, hk, rfl, hn, rfl⟩ := hrel
    by_cases hlt : k < s.size
    · by_cases hx : s[k].toNat = 120
      · have hat : xAt s.data.toList = k := xAt_hit _ k (by simpa using hlt) (fun j hj e => hn j (by omega) hj (by rw [show s[j]'(by omega) = 120 from e]; rfl)) (UInt8.toNat_inj.1 hx)
        have hM : readDec (s.extract 0 k).data.toList = readM s.data.toList := by rw [ext_take s k hk, readM, hat, if_pos (by simpa using hlt)]
        have hC : readDec (s.extract (k + 1) s.size).data.toList = readC s.data.toList := by rw [ext_drop, readC, hat, if_pos (by simpa using hlt)]
        have hwr : IntKind.i64.wrap ((k : Int) + 1) = (k : Int) + 1 := by rw [IntKind.wrap_i64]; omega
        have hs1 : ∀ wx : World, (Instr.slice 9 (.string s) none (some (.int .i64 (k : Int))) none).run Tryd.prog wx = .ok (.string (s.extract 0 k)) wx := fun wx => by
          have := run_slice_string_to_if (P := Tryd.prog) wx 9 s .i64 (k : Int) Tryd.underlying9
          rw [this, if_pos (by omega), show ((k : Int)).toNat = k from by omega]
        have hs2 : ∀ wx : World, (Instr.slice 9 (.string s) (some (.int .i64 ((k : Int) + 1))) none none).run Tryd.prog wx = .ok (.string (s.extract (k + 1) s.size)) wx := fun wx => by
          have := run_slice_string_from_if (P := Tryd.prog) wx 9 s .i64 ((k : Int) + 1) Tryd.underlying9
          rw [this, if_pos (by omega), show ((k : Int) + 1).toNat = k + 1 from by omega]
        have z1 : (s.extract 0 k).size ≤ 1048576 := by rw [ByteArray.size_extract]; omega
        have z2 : (s.extract (k + 1) s.size).size ≤ 1048576 := by rw [ByteArray.size_extract]; omega
        obtain ⟨t1, ht1⟩ : ∃ t, t = s.extract 0 k := ⟨_, rfl⟩
        obtain ⟨t2, ht2⟩ : ∃ t, t = s.extract (k + 1) s.size := ⟨_, rfl⟩
        rw [← ht1] at hM z1
        rw [← ht2] at hC z2
        simp only [← ht1] at hs1
        simp only [← ht2] at hs2
        clear hn hat ht1 ht2
        go_wp2_with fail
        go_region_with (first | (go_at_call_of 11 t1; refine (specReadDec_any t1 _ z1).mono ?_; rintro e w' ⟨rfl, rfl⟩) | (go_at_call_of 11 t2; refine (specReadDec_any t2 _ z2).mono ?_; rintro e w' ⟨rfl, rfl⟩))
        all_goals
          clear hs1 hs2 hM hC hx hwr
          cases e1 : readROk s.data.toList
          · have e2 : readRV s.data.toList = rv 0 0 := by rw [readRV, e1]; rfl
            have e3 : resOk (readM s.data.toList) (readC s.data.toList) = false := e1
            go_wp2_with (go_at_call 23; refine (specResOk_any _ _ _).mono ?_; rintro e w' ⟨rfl, rfl⟩)
            refine bodyPost_ret (v := .tuple #[rv 0 0, .bool false]) (by simp [results, Tryd.results13, go_sem]) rfl ⟨by rw [e1, e2], ?_⟩
            repeat (first | exact Below.refl _ _ | refine below_al ?_ _ | refine Below.drew ?_ | refine below_sc ?_ _ _ _ (by omega))
          · have e2 : readRV s.data.toList = rv (readM s.data.toList) (readC s.data.toList) := by rw [readRV, e1]; rfl
            have e3 : resOk (readM s.data.toList) (readC s.data.toList) = true := e1
            go_wp2_with (go_at_call 23; refine (specResOk_any _ _ _).mono ?_; rintro e w' ⟨rfl, rfl⟩)
            refine bodyPost_ret (v := .tuple #[rv (readM s.data.toList) (readC s.data.toList), .bool true]) (by simp [results, Tryd.results13, go_sem]) rfl ⟨by rw [e1, e2], ?_⟩
            repeat (first | exact Below.refl _ _ | refine below_al ?_ _ | refine Below.drew ?_ | refine below_sc ?_ _ _ _ (by omega))
      · go_wp2
        go_roundw
        case rel => exact ⟨k + 1, by omega, by go_num, fun j hj h => by by_cases e : j = k; (subst e; exact hx); exact hn j hj (by omega), trivial⟩
        case measure => simp [intOf]; omega
    · have hat : ¬ xAt s.data.toList < s.data.toList.length := by
        rw [xAt_none _ (fun j hj e => hn j (by simpa using hj) (by have : s.data.toList.length = s.size := len_eq s; omega) (by rw [show s[j]'(by simpa using hj) = 120 from e]; rfl))]; omega
      have e1 : readROk s.data.toList = false := by rw [readROk, readM, if_neg hat, readC, if_neg hat]; decide
      have e2 : readRV s.data.toList = rv 0 0 := by rw [readRV, e1]; rfl
      clear hn
      go_wp2
      refine bodyPost_ret (v := .tuple #[rv 0 0, .bool false]) (by simp [results, Tryd.results13, go_sem]) rfl ⟨by rw [e1, e2], ?_⟩
      repeat (first | exact Below.refl _ _ | refine below_al ?_ _ | refine Below.drew ?_ | refine below_sc ?_ _ _ _ (by omega))
end Go.Proofs.YtfhnjghjibklcaaDoor
