/-
  A log with a record more, by both sides; walks over the dump.
-/
import Derived.Test.YtobpjegfgegkcaaGreatDoorPRec
import Derived.Test.YtobpjegfgegkcaaGreatDoorWordB
import Derived.Test.YtobpjegfgegkcaaGreatDoorClone
namespace Go.Proofs.YtobpjegfgegkcaaGreatDoor
open Go.RowKit
set_option linter.unusedVariables false
/-- what is written of a record -/
def entry (r : Rc) : List UInt8 := word (crc (putRec r)) ++ putText (putRec r)
/-- the log behind, and whether it is written -/
def wrote (l : List UInt8) (r : Rc) : List UInt8 × Bool :=
  if putRec r = [] ∨ 60000 < l.length + (entry r).length then (l, false) else (l ++ entry r, true)
theorem entry_le (r : Rc) : (entry r).length ≤ 2009 := by
  have := putText_le (putRec r)
  simp [entry, word]; omega
theorem bs_app (a b : List UInt8) : bs a ++ bs b = bs (a ++ b) := by
  apply ByteArray.ext
  simp [bs, ByteArray.data_append]

set_option maxRecDepth 100000 in
set_option maxHeartbeats 4000000 in
theorem specWrite_any (l : List UInt8) (r : Rc) (w : World) (hl : l.length ≤ 1048576) (hq : r.queue.length ≤ 1048576) :
    Calls Tryz.prog 13 #[.string (bs l), rcv r] w fun e w' => e = .returned (.tuple #[.string (bs (wrote l r).1), .bool (wrote l r).2]) ∧ Below w.heap.size w w' := by
  have hx : crc (putRec r) < 4294967296 := xor_lt32 (crcTo_lt _) (by decide)
  have hpl := putRec_le r
  have CP := hide (fun wx => specPutRec_any r wx hq)
  have CC := hide (fun wx => specCheckSum_any (bs (putRec r)) wx (by rw [bs_size]; omega))
  have CW := hide (fun wx => l08Word_any (crc (putRec r)) wx hx)
  have CT := hide (fun wx => specPutText_any (bs (putRec r)) wx (by rw [bs_size]; omega))
  have K0 := hide (blk_new w #[.int .i64 r.kind, .int .i64 r.app, .string (bs r.queue)] 25)
  have HB0 := hide (below_al (Below.refl _ w) (.cells #[.int .i64 r.kind, .int .i64 r.app, .string (bs r.queue)] 25))
  have HE := hide (show bs (word (crc (putRec r))) ++ bs (putText (putRec r)) = bs (entry r) from bs_app _ _)
  have hel := entry_le r
  have hem := bs_empty (putRec r)
  have hzl := bs_size l
  have hze := bs_size (entry r)
  rw [show crc (bs (putRec r)).data.toList = crc (putRec r) from rfl] at CC
  rw [show bs (putText (bs (putRec r)).data.toList) = bs (putText (putRec r)) from rfl] at CT
  have HW : wrote l r = if putRec r = [] ∨ 60000 < l.length + (entry r).length then (l, false) else (l ++ entry r, true) := rfl
  have hss : (bs (word (crc (putRec r)))).size = 4 := by rw [bs_size]; rfl
  have hst : (bs (putText (putRec r))).size ≤ 2005 := by rw [bs_size]; exact putText_le _
  have HA := hide (bs_app l (entry r))
  obtain ⟨y, hy⟩ : ∃ y, entry r = y := ⟨_, rfl⟩
  rw [hy] at HE hel hze HW HA
  obtain ⟨p, hp⟩ : ∃ p, putRec r = p := ⟨_, rfl⟩
  rw [hp] at CP CC CW CT HE hem HW hss hst hx
  obtain ⟨c, hc⟩ : ∃ c, crc p = c := ⟨_, rfl⟩
  rw [hc] at CC CW HE hss hx
  obtain ⟨s1, hs1⟩ : ∃ s, bs (word c) = s := ⟨_, rfl⟩
  obtain ⟨s2, hs2⟩ : ∃ s, bs (putText p) = s := ⟨_, rfl⟩
  obtain ⟨s3, hs3⟩ : ∃ s, bs y = s := ⟨_, rfl⟩
  obtain ⟨sl, hsl⟩ : ∃ s, bs l = s := ⟨_, rfl⟩
  rw [hs1] at CW HE hss
  rw [hs2] at CT HE hst
  rw [hs3] at HE hze HA
  rw [hsl] at hzl HA
  have HN := hide hsl
  rw [hsl]
  obtain ⟨⟨o1, o2⟩, ho⟩ : ∃ o, wrote l r = o := ⟨_, rfl⟩
  rw [ho] at HW ⊢
  have n0 : ¬ 9223372036854775807 < s1.size + s2.size := by omega
  have n1 : ¬ 9223372036854775807 < 4 + s2.size := by omega
  have n2 : ¬ 9223372036854775807 < sl.size + s3.size := by omega
  clear ho hy hp hc hs1 hs2 hs3 hsl hpl
  obtain ⟨k, a, q⟩ := r
  simp only at K0 HB0 CP
  go_enter Tryz.func13, Tryz.ntmps13
  go_wp2_with fail
  refine (unhide CP _).mono ?_
  rintro e w1 ⟨rfl, hb⟩
  have HB1 := hide (below_on (unhide HB0) hb)
  clear hb CP HB0 K0
  go_wp2_with fail
  refine (unhide CC _).mono ?_
  rintro e w2 ⟨rfl, rfl⟩
  go_wp2_with fail
  refine (unhide CW _).mono ?_
  rintro e w2 ⟨rfl, hb⟩
  have HB2 := hide (below_on (unhide HB1) hb)
  clear hb CW CC HB1
  go_wp2_with fail
  refine (unhide CT _).mono ?_
  rintro e w3 ⟨rfl, hb⟩
  have HB3 := hide (below_on (unhide HB2) hb)
  clear hb CT HB2
  have HE' := unhide HE
  by_cases h1 : p = []
  · rw [decide_eq_true h1] at hem
    rw [if_pos (.inl h1)] at HW
    cases HW
    clear h1
    go_wp2
    go_ret2
    refine ⟨?_, unhide HB3⟩
    rw [unhide HN]; rfl
  · rw [decide_eq_false h1] at hem
    by_cases h2 : 60000 < l.length + y.length
    · rw [if_pos (.inr h2)] at HW
      cases HW
      clear h1
      have t1 : (60000 : Int) - (s3.size : Int) < (sl.size : Int) := by omega
      go_wp2
      go_ret2
      refine ⟨?_, unhide HB3⟩
      rw [unhide HN]; rfl
    · rw [if_neg (by rintro (h | h); exact h1 h; exact h2 h)] at HW
      cases HW
      clear h1
      have t1 : ¬ (60000 : Int) - (s3.size : Int) < (sl.size : Int) := by omega
      go_wp2
      go_ret2
      refine ⟨?_, unhide HB3⟩
      (try rw [unhide HA]); rfl

set_option maxRecDepth 100000 in
set_option maxHeartbeats 4000000 in
theorem implWrite_any (l : List UInt8) (r : Rc) (w : World) (hl : l.length ≤ 1048576) (hq : r.queue.length ≤ 1048576) :
    Calls Tryz.prog 12 #[.string (bs l), rcv r] w fun e w' => e = .returned (.tuple #[.string (bs (wrote l r).1), .bool (wrote l r).2]) ∧ Below w.heap.size w w' := by
  have hx : crc (putRec r) < 4294967296 := xor_lt32 (crcTo_lt _) (by decide)
  have hpl := putRec_le r
  have CP := hide (fun wx => implPutRec_any r wx hq)
  have CW := hide (fun wx => sumText_any (bs (putRec r)) wx (by rw [bs_size]; omega))
  have CL := hide (fun wx => clone_any (bs l) wx (by rw [bs_size]; omega))
  have CT := hide (fun wx => implPutText_any (bs (putRec r)) wx (by rw [bs_size]; omega))
  have K0 := hide (blk_new w #[.int .i64 r.kind, .int .i64 r.app, .string (bs r.queue)] 25)
  have HB0 := hide (below_al (Below.refl _ w) (.cells #[.int .i64 r.kind, .int .i64 r.app, .string (bs r.queue)] 25))
  have HE := hide (show bs (word (crc (putRec r))) ++ bs (putText (putRec r)) = bs (entry r) from bs_app _ _)
  have hel := entry_le r
  have hem := bs_empty (putRec r)
  have hzl := bs_size l
  have hze := bs_size (entry r)
  rw [show bs (word (crc (bs (putRec r)).data.toList)) = bs (word (crc (putRec r))) from rfl] at CW
  rw [show bs (putText (bs (putRec r)).data.toList) = bs (putText (putRec r)) from rfl] at CT
  have HW : wrote l r = if putRec r = [] ∨ 60000 < l.length + (entry r).length then (l, false) else (l ++ entry r, true) := rfl
  have hss : (bs (word (crc (putRec r)))).size = 4 := by rw [bs_size]; rfl
  have hst : (bs (putText (putRec r))).size ≤ 2005 := by rw [bs_size]; exact putText_le _
  have HA := hide (bs_app l (entry r))
  obtain ⟨y, hy⟩ : ∃ y, entry r = y := ⟨_, rfl⟩
  rw [hy] at HE hel hze HW HA
  obtain ⟨p, hp⟩ : ∃ p, putRec r = p := ⟨_, rfl⟩
  rw [hp] at CP CW CT HE hem HW hss hst hx
  obtain ⟨c, hc⟩ : ∃ c, crc p = c := ⟨_, rfl⟩
  rw [hc] at CW HE hss hx
  obtain ⟨s1, hs1⟩ : ∃ s, bs (word c) = s := ⟨_, rfl⟩
  obtain ⟨s2, hs2⟩ : ∃ s, bs (putText p) = s := ⟨_, rfl⟩
  obtain ⟨s3, hs3⟩ : ∃ s, bs y = s := ⟨_, rfl⟩
  obtain ⟨sl, hsl⟩ : ∃ s, bs l = s := ⟨_, rfl⟩
  rw [hs1] at CW HE hss
  rw [hs2] at CT HE hst
  rw [hs3] at HE hze HA
  rw [hsl] at hzl HA CL
  have HN := hide hsl
  rw [hsl]
  obtain ⟨⟨o1, o2⟩, ho⟩ : ∃ o, wrote l r = o := ⟨_, rfl⟩
  rw [ho] at HW ⊢
  have n0 : ¬ 9223372036854775807 < s1.size + s2.size := by omega
  have n1 : ¬ 9223372036854775807 < 4 + s2.size := by omega
  have n2 : ¬ 9223372036854775807 < sl.size + s3.size := by omega
  clear ho hy hp hc hs1 hs2 hs3 hsl hpl
  obtain ⟨k, a, q⟩ := r
  simp only at K0 HB0 CP
  go_enter Tryz.func12, Tryz.ntmps12
  go_wp2_with fail
  refine (unhide CP _).mono ?_
  rintro e w1 ⟨rfl, hb⟩
  have HB1 := hide (below_on (unhide HB0) hb)
  clear hb CP HB0 K0
  go_wp2_with fail
  refine (unhide CW _).mono ?_
  rintro e w2 ⟨rfl, hb⟩
  have HB2 := hide (below_on (unhide HB1) hb)
  clear hb CW HB1
  go_wp2_with fail
  refine (unhide CT _).mono ?_
  rintro e w3 ⟨rfl, hb⟩
  have HB3 := hide (below_on (unhide HB2) hb)
  clear hb CT HB2
  have HE' := unhide HE
  by_cases h1 : p = []
  · rw [decide_eq_true h1] at hem
    rw [if_pos (.inl h1)] at HW
    cases HW
    clear h1
    go_wp2_with fail
    refine (unhide CL _).mono ?_
    rintro e w4 ⟨rfl, hb⟩
    have HB4 := hide (below_on (unhide HB3) hb)
    clear hb
    go_wp2
    go_ret2
    refine ⟨?_, unhide HB4⟩
    rw [unhide HN]; rfl
  · rw [decide_eq_false h1] at hem
    by_cases h2 : 60000 < l.length + y.length
    · rw [if_pos (.inr h2)] at HW
      cases HW
      clear h1
      have t1 : (60000 : Int) < (sl.size : Int) + (s3.size : Int) := by omega
      go_wp2_with fail
      refine (unhide CL _).mono ?_
      rintro e w4 ⟨rfl, hb⟩
      have HB4 := hide (below_on (unhide HB3) hb)
      clear hb
      go_wp2
      go_ret2
      refine ⟨?_, unhide HB4⟩
      rw [unhide HN]; rfl
    · rw [if_neg (by rintro (h | h); exact h1 h; exact h2 h)] at HW
      cases HW
      clear h1
      have t1 : ¬ (60000 : Int) < (sl.size : Int) + (s3.size : Int) := by omega
      go_wp2
      go_ret2
      refine ⟨?_, unhide HB3⟩
      (try rw [unhide HA]); rfl
end Go.Proofs.YtobpjegfgegkcaaGreatDoor
