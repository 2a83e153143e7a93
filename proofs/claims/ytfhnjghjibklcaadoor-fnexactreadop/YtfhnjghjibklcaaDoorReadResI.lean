/-
  An amount read from its text: what the program's ReadRes answers; a walk over the dump.
-/
import Derived.Test.YtfhnjghjibklcaaDoorCutI
import Derived.Test.YtfhnjghjibklcaaDoorOrI
import Derived.Test.YtfhnjghjibklcaaDoorReadDec
namespace Go.Proofs.YtfhnjghjibklcaaDoor
open Go.RowKit
set_option linter.unusedVariables false

/-- what is read of the two parts -/
theorem readRes_parts (l : List UInt8) : orV (readDec (Lib.cut l [120]).1) (readDec (Lib.cut l [120]).2.1) = readRV l ∧ resOk (readDec (Lib.cut l [120]).1) (readDec (Lib.cut l [120]).2.1) = readROk l := by
  by_cases h : xAt l < l.length
  · rw [cut_hit h]
    have e1 : readM l = readDec (l.take (xAt l)) := if_pos h
    have e2 : readC l = readDec (l.drop (xAt l + 1)) := if_pos h
    simp only [← e1, ← e2]
    exact ⟨rfl, rfl⟩
  · rw [cut_miss h]
    have e1 : readM l = -1 := if_neg h
    have e2 : readC l = -1 := if_neg h
    have e3 : readDec [] = -1 := readDec_no (.inl (by simp))
    have e4 : ∀ x, resOk x (-1) = false := fun x => by simp [resOk, inB]
    have e5 : readROk l = false := by rw [readROk, e2, e4]
    simp only [e3, readRV, e5, orV, e4]
    exact ⟨rfl, trivial⟩
theorem cut_size (l : List UInt8) : (Lib.cut l [120]).1.length ≤ l.length ∧ (Lib.cut l [120]).2.1.length ≤ l.length := by
  by_cases h : xAt l < l.length
  · rw [cut_hit h]; simp; omega
  · rw [cut_miss h]; simp
set_option maxRecDepth 100000 in
set_option maxHeartbeats 1000000 in
theorem implReadRes_any (s : ByteArray) (w : World) (hs : s.size ≤ 1048576) (hm : MaxLenAt w) :
    Calls Tryd.prog 36 #[.string s] w fun e w' => e = .returned (.tuple #[readRV s.data.toList, .bool (readROk s.data.toList)]) ∧ Below w.heap.size w w' := by
  have hc := hide (cut_any s (w.alloc (.cells #[.int .i64 0, .int .i64 0] 23)) hs (hm.below (below_al (Below.refl _ _) _)))
  obtain ⟨p1, p2⟩ := readRes_parts s.data.toList
  rw [← p1, ← p2]
  clear p1 p2
  obtain ⟨z1, z2⟩ := cut_size s.data.toList
  obtain ⟨⟨l1, l2, f⟩, hl⟩ : ∃ x, Lib.cut s.data.toList [120] = x := ⟨_, rfl⟩
  rw [hl] at hc z1 z2 ⊢
  rw [len_eq] at z1 z2
  simp only at hc z1 z2 ⊢
  have hd1 := hide (fun wx => implReadDec_any (bs l1) wx (by rw [bs_size]; omega))
  have hd2 := hide (fun wx => implReadDec_any (bs l2) wx (by rw [bs_size]; omega))
  simp only [bs] at hd1 hd2
  obtain ⟨M, hM⟩ : ∃ M, readDec l1 = M := ⟨_, rfl⟩
  obtain ⟨C, hC⟩ : ∃ C, readDec l2 = C := ⟨_, rfl⟩
  rw [hM] at hd1 ⊢
  rw [hC] at hd2 ⊢
  obtain ⟨u, v, hv⟩ : ∃ u v, orV M C = rv u v := by unfold orV; split <;> exact ⟨_, _, rfl⟩
  obtain ⟨o, ho⟩ : ∃ o, resOk M C = o := ⟨_, rfl⟩
  have HO := hide (fun wx => by have := or_any M C wx; rw [hv, ho] at this; exact this)
  rw [hv, ho]
  obtain ⟨t1, ht1⟩ : ∃ t, t = bs l1 := ⟨_, rfl⟩
  obtain ⟨t2, ht2⟩ : ∃ t, t = bs l2 := ⟨_, rfl⟩
  rw [← ht1, ← ht2] at hc
  rw [show (⟨l1.toArray⟩ : ByteArray) = t1 from ht1.symm] at hd1
  rw [show (⟨l2.toArray⟩ : ByteArray) = t2 from ht2.symm] at hd2
  clear hv ho hM hC hl z1 z2 hm ht1 ht2
  have HB0 := hide (below_al (Below.refl _ w) (.cells #[.int .i64 0, .int .i64 0] 23))
  have HV := hide (var_new w 23 0 0)
  go_enter Tryd.func36, Tryd.ntmps36
  go_wp2_with fail
  refine (unhide hc).mono ?_
  rintro e w1 ⟨rfl, hb⟩
  have V1 := hide ((unhide HV).below hb)
  have HB1 := hide (below_on (unhide HB0) hb)
  clear hb hc HB0 HV
  go_wp2_with fail
  refine (unhide hd1 _).mono ?_
  rintro e w2 ⟨rfl, rfl⟩
  go_wp2_with fail
  refine (unhide hd2 _).mono ?_
  rintro e w3 ⟨rfl, rfl⟩
  clear hd1 hd2
  go_wp2_with fail
  refine (unhide HO _).mono ?_
  rintro e w4 ⟨rfl, hb⟩
  have V4 := (unhide V1).below hb
  have k0 := V4.c0
  have k1 := V4.c1
  have k2 := V4.f 0
  have k3 := V4.f 1
  have k4 := V4.s0 (.int .i64 u)
  have k5 := V4.s1 (.int .i64 u) (.int .i64 v)
  have HB := hide (below_on (unhide HB1) hb)
  clear hb V4 V1 HB1 HO
  go_wp2
  refine bodyPost_ret (v := .tuple #[rv u v, .bool o]) (by simp [results, Tryd.results36, go_sem, k4, k5]) rfl ⟨rfl, ?_⟩
  repeat (first | exact unhide HB | refine below_al ?_ _ | refine Below.drew ?_ | refine below_sc ?_ _ _ _ (by omega))
end Go.Proofs.YtfhnjghjibklcaaDoor
