/-
  The four bytes of a sum, by both sides; walks over the dump.
-/
import Derived.Test.YtobpjegfgegkcaaGreatDoorPackA
import Derived.Test.YtobpjegfgegkcaaGreatDoorSumI
import Derived.Laws.IdiomStrings
namespace Go.Proofs.YtobpjegfgegkcaaGreatDoor
open Go.RowKit
set_option linter.unusedVariables false
def word (x : Nat) : List UInt8 := [UInt8.ofNat (x / 16777216), UInt8.ofNat (x / 65536 % 256), UInt8.ofNat (x / 256 % 256), UInt8.ofNat (x % 256)]
theorem word_conv (x : Nat) (hx : x < 4294967296) (wx : World) (g : Nat) (hb : Blk wx g #[.int .u8 ((x : Int) / 16777216), .int .u8 ((x : Int) / 65536 % 256), .int .u8 ((x : Int) / 256 % 256), .int .u8 ((x : Int) % 256)] 5) : (convert 22 9 (.slice (some ⟨g, 0, none⟩) 4 4)).run Tryz.prog wx = .ok (.string (bs (word x))) wx := by
  have := run_convert_bytes_back wx 22 9 5 ⟨g, 0, none⟩ 4 (word x) Tryz.underlying22 Tryz.underlying5 Tryz.underlying9 (fun j hj => by
    have h := hb.at j
    have hj4 : j < 4 := hj
    rw [Lib.add_plain, Nat.zero_add, h]
    have e1 := byteOf (x / 16777216) (by omega)
    have e2 := byteOf (x / 65536 % 256) (by omega)
    have e3 := byteOf (x / 256 % 256) (by omega)
    have e4 := byteOf (x % 256) (by omega)
    match j, hj4 with
    | 0, _ => simp only [word, List.getElem_cons_zero, e1]; rfl
    | 1, _ => simp only [word, List.getElem_cons_zero, List.getElem_cons_succ, e2]; rfl
    | 2, _ => simp only [word, List.getElem_cons_zero, List.getElem_cons_succ, e3]; rfl
    | 3, _ => simp only [word, List.getElem_cons_zero, List.getElem_cons_succ, e4]; rfl)
  exact this

set_option maxRecDepth 100000 in
set_option maxHeartbeats 1000000 in
theorem l08Word_any (x : Nat) (w : World) (hx : x < 4294967296) :
    Calls Tryz.prog 26 #[.int .u32 (x : Int)] w fun e w' => e = .returned (.string (bs (word x))) ∧ Below w.heap.size w w' := by
  have HC := word_conv x hx _ _ (blk_new w #[.int .u8 ((x : Int) / 16777216), .int .u8 ((x : Int) / 65536 % 256), .int .u8 ((x : Int) / 256 % 256), .int .u8 ((x : Int) % 256)] 5)
  go_enter Tryz.func26, Tryz.ntmps26
  go_wp2
  go_ret
  exact ⟨rfl, below_al (Below.refl _ _) _⟩

set_option maxRecDepth 100000 in
set_option maxHeartbeats 1000000 in
theorem sumText_any (s : ByteArray) (w : World) (hs : s.size ≤ 1048576) :
    Calls Tryz.prog 36 #[.string s] w fun e w' => e = .returned (.string (bs (word (crc s.data.toList)))) ∧ Below w.heap.size w w' := by
  have CC := hide (fun wx => implCheckSum_any s wx hs)
  have hx : crc s.data.toList < 4294967296 := xor_lt32 (crcTo_lt _) (by decide)
  obtain ⟨x, ex⟩ : ∃ x, crc s.data.toList = x := ⟨_, rfl⟩
  rw [ex] at CC hx ⊢
  clear ex
  go_enter Tryz.func36, Tryz.ntmps36
  go_wp2_with fail
  refine (unhide CC _).mono ?_
  rintro e w1 ⟨rfl, hb⟩
  have HB := hide hb
  clear hb
  have HC := word_conv x hx _ _ (blk_new w1 #[.int .u8 ((x : Int) / 16777216), .int .u8 ((x : Int) / 65536 % 256), .int .u8 ((x : Int) / 256 % 256), .int .u8 ((x : Int) % 256)] 5)
  go_wp2
  go_ret
  exact ⟨rfl, below_al (unhide HB) _⟩
end Go.Proofs.YtobpjegfgegkcaaGreatDoor
