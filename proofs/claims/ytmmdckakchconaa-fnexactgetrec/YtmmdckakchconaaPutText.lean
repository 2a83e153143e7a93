/-
  What PutText answers, the program's and the model's: the bytes of the length, and the text; walks over the dump.
-/
import Derived.Test.YtmmdckakchconaaPutS
namespace Go.Proofs.Ytmmdckakchconaa
open Go.RowKit
def putText (l : List UInt8) : List UInt8 := if l.length ≤ 2000 then put l.length ++ l else []
theorem bs_append (l : List UInt8) (s : ByteArray) : bs l ++ s = bs (l ++ s.data.toList) := by
  cases s with
  | mk d => unfold bs; rw [ByteArray.mk_append_mk]

set_option maxHeartbeats 400000 in
theorem specPutText_any (s : ByteArray) (w : World) (hs : s.size ≤ 1048576) :
    Calls Try.prog 28 #[.string s] w fun e w' => e = .returned (.string (bs (putText s.data.toList))) ∧ Below w.heap.size w w' := by
  by_cases h : s.size ≤ 2000
  · have hp : (bs (put s.size)).size ≤ 5 := by rw [bs_size]; exact put_le5 (by omega)
    have hf : Hid (bs (put s.size) ++ s = bs (putText s.data.toList)) := hide (by rw [putText, len_eq, if_pos h, bs_append])
    go_enter Try.func28, Try.ntmps28
    go_wp2_with fail
    refine (specPutNum_yes s.size _ (by omega)).mono ?_
    rintro e w1 ⟨rfl, hb1⟩
    have HB := hide hb1
    clear hb1
    go_wp2
    go_ret
    exact ⟨ret_str (unhide hf), unhide HB⟩
  · have hf : Hid (putText s.data.toList = []) := hide (by rw [putText, len_eq, if_neg h])
    go_enter Try.func28, Try.ntmps28
    go_wp2
    go_ret
    exact ⟨ret_str (by rw [unhide hf]; rfl), Below.refl _ _⟩

end Go.Proofs.Ytmmdckakchconaa
