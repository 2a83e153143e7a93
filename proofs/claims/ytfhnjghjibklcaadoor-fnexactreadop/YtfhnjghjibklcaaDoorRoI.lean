/-
  An operation out of its words, by the program: shortOp; a walk over the dump.
-/
import Derived.Test.YtfhnjghjibklcaaDoorRoM
import Derived.Test.YtfhnjghjibklcaaDoorReadDec
import Derived.Test.YtfhnjghjibklcaaDoorName
import Derived.Test.YtfhnjghjibklcaaDoorTxtM
namespace Go.Proofs.YtfhnjghjibklcaaDoor
open Go.RowKit
set_option linter.unusedVariables false
set_option linter.unusedSimpArgs false

theorem bs_data (l : List UInt8) : (bs l).data.toList = l := by simp [bs]
theorem is_word (a k : List UInt8) : ((bs a).toList == k) = decide (a = k) := by
  rw [ByteArray.toList_eq]
  by_cases h : a = k
  · subst h; simp [bs]
  · simp [bs, h]

set_option maxRecDepth 100000 in
set_option maxHeartbeats 4000000 in
theorem shortOp_any (a b : List UInt8) (w : World) (ha : a.length ≤ 1048576) (hb : b.length ≤ 1048576) :
    Calls Tryd.prog 30 #[.string (bs a), .string (bs b)] w fun e w' => e = .returned (.tuple #[opv (rdShort a b).1 none 0 0, .bool (rdShort a b).2]) ∧ Below w.heap.size w w' := by
  have CD := hide (fun wx => by have := implReadDec_any (bs b) wx (by rw [bs_size]; exact hb); rw [bs_data] at this; exact this)
  have CN := hide (fun wx => by have := implNameOk_any (bs b) wx (by rw [bs_size]; exact hb); rw [bs_data] at this; exact this)
  obtain ⟨n, hn⟩ : ∃ n, readDec b = n := ⟨_, rfl⟩
  obtain ⟨nk, hnk⟩ : ∃ n, nameOk b = n := ⟨_, rfl⟩
  obtain ⟨r, hr⟩ : ∃ r, rdShort a b = r := ⟨_, rfl⟩
  rw [hr]
  have HR := hide hr
  unfold rdShort at HR
  rw [hn] at CD HR
  rw [hnk] at CN HR
  clear hr hn hnk
  have s1 : ((bs a).toList == [115, 117, 98, 109, 105, 116]) = decide (a = kSubmit) := is_word a kSubmit
  have s2 : ((bs a).toList == [102, 105, 110, 105, 115, 104]) = decide (a = kFinish) := is_word a kFinish
  have s3 : ((bs a).toList == [102, 114, 101, 101]) = decide (a = kFree) := is_word a kFree
  have s4 : ((bs a).toList == [115, 101, 114, 118, 101]) = decide (a = kServe) := is_word a kServe
  go_enter Tryd.func30, Tryd.ntmps30
  go_wp2_with fail
  refine (unhide CD _).mono ?_
  rintro e w1 ⟨rfl, rfl⟩
  by_cases h1 : a = kSubmit
  · have HE := unhide HR
    rw [if_pos h1] at HE
    rw [decide_eq_true h1] at s1
    subst HE
    clear h1 HR s2 s3 s4
    go_wp2_with fail
    refine (unhide CN _).mono ?_
    rintro e w2 ⟨rfl, rfl⟩
    go_wp2
    exact bodyPost_ret (v := .tuple #[opv ⟨0, b, 0, ⟨0, 0, 0, [], 0⟩, 0, [], 0, 0, []⟩ none 0 0, .bool nk]) (by simp [results, Tryd.results30, go_sem]; try rfl) rfl ⟨rfl, below_al (Below.refl _ _) _⟩
  have HR1 := hide (unhide HR)
  rw [if_neg h1] at HR1
  rw [decide_eq_false h1] at s1
  clear HR
  by_cases h2 : a = kFinish
  · have HE := unhide HR1
    rw [if_pos h2] at HE
    rw [decide_eq_true h2] at s2
    subst HE
    clear h1 h2 HR1 s3 s4
    go_wp2
    exact bodyPost_ret (v := .tuple #[opv ⟨1, [], n, ⟨0, 0, 0, [], 0⟩, 0, [], 0, 0, []⟩ none 0 0, .bool (decide (0 ≤ n))]) (by simp [results, Tryd.results30, go_sem]; try rfl) rfl ⟨rfl, below_al (Below.refl _ _) _⟩
  have HR2 := hide (unhide HR1)
  rw [if_neg h2] at HR2
  rw [decide_eq_false h2] at s2
  clear HR1
  by_cases h3 : a = kFree
  · have HE := unhide HR2
    rw [if_pos h3] at HE
    rw [decide_eq_true h3] at s3
    subst HE
    clear h1 h2 h3 HR2 s4
    go_wp2
    exact bodyPost_ret (v := .tuple #[opv ⟨3, [], 0, ⟨0, 0, 0, [], 0⟩, n, [], 0, 0, []⟩ none 0 0, .bool (decide (0 ≤ n))]) (by simp [results, Tryd.results30, go_sem]; try rfl) rfl ⟨rfl, below_al (Below.refl _ _) _⟩
  have HR3 := hide (unhide HR2)
  rw [if_neg h3] at HR3
  rw [decide_eq_false h3] at s3
  clear HR2
  by_cases h4 : a = kServe
  · have HE := unhide HR3
    rw [if_pos h4] at HE
    rw [decide_eq_true h4] at s4
    subst HE
    clear h1 h2 h3 h4 HR3
    go_wp2_with fail
    refine (unhide CN _).mono ?_
    rintro e w2 ⟨rfl, rfl⟩
    go_wp2
    exact bodyPost_ret (v := .tuple #[opv ⟨7, b, 0, ⟨0, 0, 0, [], 0⟩, 0, [], 0, 0, []⟩ none 0 0, .bool nk]) (by simp [results, Tryd.results30, go_sem]; try rfl) rfl ⟨rfl, below_al (Below.refl _ _) _⟩
  have HE := unhide HR3
  rw [if_neg h4] at HE
  rw [decide_eq_false h4] at s4
  subst HE
  clear h1 h2 h3 h4 HR3
  go_wp2
  exact bodyPost_ret (v := .tuple #[opv ⟨0, [], 0, ⟨0, 0, 0, [], 0⟩, 0, [], 0, 0, []⟩ none 0 0, .bool false]) (by simp [results, Tryd.results30, go_sem]; try rfl) rfl ⟨rfl, below_al (Below.refl _ _) _⟩
end Go.Proofs.YtfhnjghjibklcaaDoor
