/-
  Several texts of this claim in one: PRec, NumsM, GRecM, WordB, RdL, RdM, ReadC (pack.py put them together); each says in its own remark what is proved.
-/
import Derived.Test.YtkpmocbfedgfhaaGreatPackL
import Derived.Test.YtkpmocbfedgfhaaGreatPackN
import Derived.Test.YtkpmocbfedgfhaaGreatPackF
import Derived.Laws.IdiomStrings
import Derived.Deep.RegionWith
import Derived.Deep.RegionHeld3
import Derived.Deep.CutRange
import Derived.Test.YtkpmocbfedgfhaaGreatPackM
import Derived.Test.YtkpmocbfedgfhaaGreatPackA
import Derived.LoopN
/-
  The bytes of a record, by both sides; walks over the dump.
-/
namespace Go.Proofs.YtkpmocbfedgfhaaGreat
open Go.RowKit
set_option linter.unusedVariables false
def putRec (r : Rc) : List UInt8 := if recOk r = true then UInt8.ofNat r.kind.toNat :: (putNum r.app ++ putText r.queue) else []
theorem putNum_le (n : Int) : (putNum n).length ≤ 5 := by
  unfold putNum; split
  · exact put_le5 (by omega)
  · simp
theorem putText_le (l : List UInt8) : (putText l).length ≤ 2005 := by
  unfold putText; split
  · rw [List.length_append]; have := put_le5 (u := l.length) (by omega); omega
  · simp
theorem putRec_le (r : Rc) : (putRec r).length ≤ 2011 := by
  unfold putRec; split
  · have := putNum_le r.app; have := putText_le r.queue; simp; omega
  · simp
theorem byte_conv (k : Int) (h0 : 0 ≤ k) (h1 : k ≤ 2) (wx : World) (g : Nat) (hb : Blk wx g #[.int .u8 k] 5) : (convert 22 9 (.slice (some ⟨g, 0, none⟩) 1 1)).run Tryz.prog wx = .ok (.string (bs [UInt8.ofNat k.toNat])) wx := by
  have := run_convert_bytes_back wx 22 9 5 ⟨g, 0, none⟩ 1 [UInt8.ofNat k.toNat] Tryz.underlying22 Tryz.underlying5 Tryz.underlying9 (fun j hj => by
    have h := hb.at 0
    have e : j = 0 := by simpa using hj
    subst e
    simp at h
    have : (UInt8.ofNat k.toNat).toNat = k.toNat := by rw [UInt8.toNat_ofNat']; omega
    rw [Lib.add_plain, Nat.zero_add, h]
    simp only [List.getElem_cons_zero, this]
    congr 2; omega)
  exact this
theorem bs_three (a b c : List UInt8) : bs a ++ bs b ++ bs c = bs (a ++ (b ++ c)) := by
  apply ByteArray.ext
  simp [bs, ByteArray.data_append]

/-- the record's own block stands, and nothing below has turned -/
def RB (w : World) (k a : Int) (q : List UInt8) (wx : World) : Prop := Blk wx w.heap.size #[.int .i64 k, .int .i64 a, .string (bs q)] 41 ∧ Below w.heap.size w wx
theorem RB.al {w wx : World} {k a : Int} {q : List UInt8} (h : RB w k a q wx) (o : Obj) : RB w k a q (wx.alloc o) := ⟨h.1.al o, below_al h.2 o⟩
theorem RB.call {w wx wy : World} {k a : Int} {q : List UInt8} (h : RB w k a q wx) (hb : Below wx.heap.size wx wy) : RB w k a q wy := ⟨h.1.below hb, below_on h.2 hb⟩
/-- and so does the block of one byte -/
def RBK (w : World) (k a : Int) (q : List UInt8) (g : Nat) (wx : World) : Prop := RB w k a q wx ∧ Blk wx g #[.int .u8 k] 5
theorem RBK.mk {w wx : World} {k a : Int} {q : List UInt8} (h : RB w k a q wx) (x : Int) (t : TypeId) : RB w k a q (wx.alloc (.cells #[.int .u8 x] t)) ∧ Blk (wx.alloc (.cells #[.int .u8 x] t)) wx.heap.size #[.int .u8 x] t := ⟨h.al _, blk_new wx _ t⟩
theorem RBK.call {w wx wy : World} {k a : Int} {q : List UInt8} {g : Nat} (h : RBK w k a q g wx) (hb : Below wx.heap.size wx wy) : RBK w k a q g wy := ⟨h.1.call hb, h.2.below hb⟩

set_option maxRecDepth 100000 in
set_option maxHeartbeats 4000000 in
theorem specPutRec_any (r : Rc) (w : World) (hq : r.queue.length ≤ 1048576) :
    Calls Tryz.prog 80 #[rcv r] w fun e w' => e = .returned (.string (bs (putRec r))) ∧ Below w.heap.size w w' := by
  obtain ⟨k, a, q⟩ := r
  simp only at hq
  have CO := hide (fun wx => specRecOk_any ⟨k, a, q⟩ wx hq)
  have K0 := hide (blk_new w #[.int .i64 k, .int .i64 a, .string (bs q)] 41)
  have HB0 := hide (below_al (Below.refl _ w) (.cells #[.int .i64 k, .int .i64 a, .string (bs q)] 41))
  by_cases ho : recOk ⟨k, a, q⟩ = true
  case neg =>
    rw [Bool.not_eq_true] at ho
    have HP : putRec ⟨k, a, q⟩ = [] := by simp [putRec, ho]
    rw [ho] at CO
    rw [HP]
    clear ho HP
    go_enter Tryz.func80, Tryz.ntmps80
    go_wp2_with fail
    refine (unhide CO _).mono ?_
    rintro e w1 ⟨rfl, hb⟩
    have HB1 := hide (below_on (unhide HB0) hb)
    clear hb
    go_wp2
    go_ret
    exact ⟨rfl, unhide HB1⟩
  obtain ⟨b0, b1, b2, b3, b4⟩ := recOk_bd ho
  simp only at b0 b1 b2 b3 b4
  have HP := hide (show bs [UInt8.ofNat k.toNat] ++ bs (putNum a) ++ bs (putText q) = bs (putRec ⟨k, a, q⟩) by rw [bs_three]; simp [putRec, ho])
  rw [ho] at CO
  clear ho
  obtain ⟨s1, hs1⟩ : ∃ s, bs [UInt8.ofNat k.toNat] = s := ⟨_, rfl⟩
  obtain ⟨s2, hs2⟩ : ∃ s, bs (putNum a) = s := ⟨_, rfl⟩
  obtain ⟨s3, hs3⟩ : ∃ s, bs (putText q) = s := ⟨_, rfl⟩
  have z1 : s1.size = 1 := by rw [← hs1, bs_size]; rfl
  have z2 : s2.size ≤ 5 := by rw [← hs2, bs_size]; exact putNum_le a
  have z3 : s3.size ≤ 2005 := by rw [← hs3, bs_size]; exact putText_le q
  have n1 : ¬ 9223372036854775807 < s1.size + s2.size := by omega
  have n2 : ¬ 9223372036854775807 < s1.size + s2.size + s3.size := by omega
  clear z1 z2 z3
  have BC := hide (fun wx g hb => byte_conv k b0 b1 wx g hb)
  rw [hs1] at BC HP
  rw [hs2, hs3] at HP
  have C1 := hide (fun wx => by have := specPutNum_any a wx; rw [hs2] at this; exact this)
  have C2 := hide (fun wx => by have := specPutText_any (bs q) wx (by rw [bs_size]; exact hq); rw [show bs (putText (bs q).data.toList) = s3 from hs3] at this; exact this)
  have kw : IntKind.u8.wrap k = k := by simp [IntKind.wrap_u8]; omega
  clear hs1 hs2 hs3
  go_enter Tryz.func80, Tryz.ntmps80
  go_wp2_with fail
  refine (unhide CO _).mono ?_
  rintro e w1 ⟨rfl, hb⟩
  have HB1 := hide (below_on (unhide HB0) hb)
  have K1 := hide ((unhide K0).below hb)
  clear hb CO HB0 K0
  go_wp2_with fail
  refine wp_region_held_drew (S := RB w k a q) (by kernel_rfl) (show RB w k a q w1.drew from ⟨unhide K1, (unhide HB1).drew⟩) (fun S0 => ?_)
  have R : ∀ wz, RB w k a q wz → wz.cell? ⟨w.heap.size, 0, none⟩ = some (.int .i64 k) ∧ wz.cell? ⟨w.heap.size, 1, none⟩ = some (.int .i64 a) ∧ wz.cell? ⟨w.heap.size, 2, none⟩ = some (.string (bs q)) := fun wz h => ⟨by simpa using h.1.at 0, by simpa using h.1.at 1, by simpa using h.1.at 2⟩
  refine takeD (i := 0) (d := some 6) (v := _) rfl rfl (by kernel_rfl) (by kernel_rfl) (by kernel_rfl) (fun _ _ _ h => h) (Or.inl ⟨by rfl, fun wz hz => by (obtain ⟨r0, r1, r2⟩ := R wz hz; go_simp; try with_reducible rfl)⟩) S0 ?_
  try simp only [Act.put, List.setIfInBounds_toArray, List.set_cons_zero, List.set_cons_succ]
  refine takeD (i := 1) (d := some 7) (v := _) rfl rfl (by kernel_rfl) (by kernel_rfl) (by kernel_rfl) (fun _ _ _ h => h) (Or.inl ⟨by rfl, fun wz hz => by (obtain ⟨r0, r1, r2⟩ := R wz hz; go_simp; try with_reducible rfl)⟩) S0 ?_
  try simp only [Act.put, List.setIfInBounds_toArray, List.set_cons_zero, List.set_cons_succ]
  refine takeD (i := 2) (d := some 8) (v := _) rfl rfl (by kernel_rfl) (by kernel_rfl) (by kernel_rfl) (fun _ _ _ h => h) (Or.inl ⟨by rfl, fun wz hz => by (obtain ⟨r0, r1, r2⟩ := R wz hz; go_simp; try with_reducible rfl)⟩) S0 ?_
  try simp only [Act.put, List.setIfInBounds_toArray, List.set_cons_zero, List.set_cons_succ]
  refine takeD (i := 5) (d := some 11) (v := _) rfl rfl (by kernel_rfl) (by kernel_rfl) (by kernel_rfl) (fun _ _ _ h => h) (Or.inl ⟨by rfl, fun wz hz => by (obtain ⟨r0, r1, r2⟩ := R wz hz; go_simp; try with_reducible rfl)⟩) S0 ?_
  try simp only [Act.put, List.setIfInBounds_toArray, List.set_cons_zero, List.set_cons_succ]
  refine takeD (i := 6) (d := some 12) (v := _) rfl rfl (by kernel_rfl) (by kernel_rfl) (by kernel_rfl) (fun _ _ _ h => h) (Or.inl ⟨by rfl, fun wz hz => by (obtain ⟨r0, r1, r2⟩ := R wz hz; go_simp; try with_reducible rfl)⟩) S0 ?_
  try simp only [Act.put, List.setIfInBounds_toArray, List.set_cons_zero, List.set_cons_succ]
  refine takeD (i := 9) (d := some 15) (v := _) rfl rfl (by kernel_rfl) (by kernel_rfl) (by kernel_rfl) (fun _ _ _ h => h) (Or.inl ⟨by rfl, fun wz hz => by (obtain ⟨r0, r1, r2⟩ := R wz hz; go_simp; try with_reducible rfl)⟩) S0 ?_
  try simp only [Act.put, List.setIfInBounds_toArray, List.set_cons_zero, List.set_cons_succ]
  refine takeD (i := 10) (d := some 16) (v := _) rfl rfl (by kernel_rfl) (by kernel_rfl) (by kernel_rfl) (fun _ _ _ h => h) (Or.inl ⟨by rfl, fun wz hz => by (obtain ⟨r0, r1, r2⟩ := R wz hz; go_simp; try with_reducible rfl)⟩) S0 ?_
  try simp only [Act.put, List.setIfInBounds_toArray, List.set_cons_zero, List.set_cons_succ]
  clear R
  refine wpAnyH_ready (rs := [3, 7]) (by kernel_rfl) (by simp) ?_
  refine AllReadyH.cons rfl (fun K hK => ?_) ?_
  · go_wp2_with fail
    refine hK.out _ _ (RB.al S0 _) (fun _ => ?_)
    have S1 : RBK w k a q w1.heap.size _ := RBK.mk S0 k 5
    clear hK K
    refine wpAnyH_narrow (S' := RBK w k a q w1.heap.size) (fun _ h => h.1) _ _ _ _ ?_
    try simp only [Act.put, List.setIfInBounds_toArray, List.set_cons_zero, List.set_cons_succ]
    refine takeD (i := 4) (d := some 10) (v := _) rfl rfl (by kernel_rfl) (by kernel_rfl) (by kernel_rfl) (fun _ _ _ h => h) (Or.inl ⟨by rfl, fun wz hz => by (have hcv := unhide BC _ _ hz.2; go_simp; try with_reducible rfl)⟩) S1 ?_
    try simp only [Act.put, List.setIfInBounds_toArray, List.set_cons_zero, List.set_cons_succ]
    refine wpAnyH_ready (rs := [7]) (by kernel_rfl) (by simp) ?_
    refine AllReadyH.cons rfl (fun K hK => ?_) AllReadyH.nil
    go_simp
    refine (unhide C1 _).mono ?_
    rintro e wc ⟨rfl, hb⟩
    have S1 := RBK.call S1 hb
    go_wp2_with fail
    refine hK.out _ _ S1 (fun S2 => ?_)
    clear hK K S1 hb
    try simp only [Act.put, List.setIfInBounds_toArray, List.set_cons_zero, List.set_cons_succ]
    refine takeD (i := 8) (d := some 14) (v := _) rfl rfl (by kernel_rfl) (by kernel_rfl) (by kernel_rfl) (fun _ _ _ h => h) (Or.inl ⟨by rfl, fun wz hz => by (go_simp; try with_reducible rfl)⟩) S2 ?_
    try simp only [Act.put, List.setIfInBounds_toArray, List.set_cons_zero, List.set_cons_succ]
    refine wpAnyH_ready (rs := [11]) (by kernel_rfl) (by simp) ?_
    refine AllReadyH.cons rfl (fun K hK => ?_) AllReadyH.nil
    go_simp
    refine (unhide C2 _).mono ?_
    rintro e wc ⟨rfl, hb⟩
    have S1 := RBK.call S2 hb
    go_wp2_with fail
    refine hK.out _ _ S1 (fun S3 => ?_)
    clear hK K S1 hb
    try simp only [Act.put, List.setIfInBounds_toArray, List.set_cons_zero, List.set_cons_succ]
    refine takeD (i := 12) (d := some 18) (v := _) rfl rfl (by kernel_rfl) (by kernel_rfl) (by kernel_rfl) (fun _ _ _ h => h) (Or.inl ⟨by rfl, fun wz hz => by (go_simp; try with_reducible rfl)⟩) S3 ?_
    try simp only [Act.put, List.setIfInBounds_toArray, List.set_cons_zero, List.set_cons_succ]
    refine takeD (i := 13) (d := some 2) (v := _) rfl rfl (by kernel_rfl) (by kernel_rfl) (by kernel_rfl) (fun _ _ _ h => h) (Or.inl ⟨by rfl, fun wz hz => by (go_simp; try with_reducible rfl)⟩) S3 ?_
    try simp only [Act.put, List.setIfInBounds_toArray, List.set_cons_zero, List.set_cons_succ]
    refine wpAnyH_done (by kernel_rfl) ?_ _
    have SX := S3
    have HBx := hide SX.1.2
    go_wp2_with fail
    go_wp2
    go_ret
    exact ⟨ret_str (unhide HP), unhide HBx⟩
  refine AllReadyH.cons rfl (fun K hK => ?_) AllReadyH.nil
  go_simp
  refine (unhide C1 _).mono ?_
  rintro e wc ⟨rfl, hb⟩
  have S1 := RB.call S0 hb
  go_wp2_with fail
  refine hK.out _ _ S1 (fun S2 => ?_)
  clear hK K S1 hb
  try simp only [Act.put, List.setIfInBounds_toArray, List.set_cons_zero, List.set_cons_succ]
  refine wpAnyH_ready (rs := [3, 11]) (by kernel_rfl) (by simp) ?_
  refine AllReadyH.cons rfl (fun K hK => ?_) ?_
  · go_wp2_with fail
    refine hK.out _ _ (RB.al S2 _) (fun _ => ?_)
    have S4 : RBK w k a q wc.heap.size _ := RBK.mk S2 k 5
    clear hK K
    refine wpAnyH_narrow (S' := RBK w k a q wc.heap.size) (fun _ h => h.1) _ _ _ _ ?_
    try simp only [Act.put, List.setIfInBounds_toArray, List.set_cons_zero, List.set_cons_succ]
    refine takeD (i := 4) (d := some 10) (v := _) rfl rfl (by kernel_rfl) (by kernel_rfl) (by kernel_rfl) (fun _ _ _ h => h) (Or.inl ⟨by rfl, fun wz hz => by (have hcv := unhide BC _ _ hz.2; go_simp; try with_reducible rfl)⟩) S4 ?_
    try simp only [Act.put, List.setIfInBounds_toArray, List.set_cons_zero, List.set_cons_succ]
    refine takeD (i := 8) (d := some 14) (v := _) rfl rfl (by kernel_rfl) (by kernel_rfl) (by kernel_rfl) (fun _ _ _ h => h) (Or.inl ⟨by rfl, fun wz hz => by (go_simp; try with_reducible rfl)⟩) S4 ?_
    try simp only [Act.put, List.setIfInBounds_toArray, List.set_cons_zero, List.set_cons_succ]
    refine wpAnyH_ready (rs := [11]) (by kernel_rfl) (by simp) ?_
    refine AllReadyH.cons rfl (fun K hK => ?_) AllReadyH.nil
    go_simp
    refine (unhide C2 _).mono ?_
    rintro e wc ⟨rfl, hb⟩
    have S1 := RBK.call S4 hb
    go_wp2_with fail
    refine hK.out _ _ S1 (fun S3 => ?_)
    clear hK K S1 hb
    try simp only [Act.put, List.setIfInBounds_toArray, List.set_cons_zero, List.set_cons_succ]
    refine takeD (i := 12) (d := some 18) (v := _) rfl rfl (by kernel_rfl) (by kernel_rfl) (by kernel_rfl) (fun _ _ _ h => h) (Or.inl ⟨by rfl, fun wz hz => by (go_simp; try with_reducible rfl)⟩) S3 ?_
    try simp only [Act.put, List.setIfInBounds_toArray, List.set_cons_zero, List.set_cons_succ]
    refine takeD (i := 13) (d := some 2) (v := _) rfl rfl (by kernel_rfl) (by kernel_rfl) (by kernel_rfl) (fun _ _ _ h => h) (Or.inl ⟨by rfl, fun wz hz => by (go_simp; try with_reducible rfl)⟩) S3 ?_
    try simp only [Act.put, List.setIfInBounds_toArray, List.set_cons_zero, List.set_cons_succ]
    refine wpAnyH_done (by kernel_rfl) ?_ _
    have SX := S3
    have HBx := hide SX.1.2
    go_wp2_with fail
    go_wp2
    go_ret
    exact ⟨ret_str (unhide HP), unhide HBx⟩
  refine AllReadyH.cons rfl (fun K hK => ?_) AllReadyH.nil
  go_simp
  refine (unhide C2 _).mono ?_
  rintro e wc ⟨rfl, hb⟩
  have S1 := RB.call S2 hb
  go_wp2_with fail
  refine hK.out _ _ S1 (fun S3 => ?_)
  clear hK K S1 hb
  try simp only [Act.put, List.setIfInBounds_toArray, List.set_cons_zero, List.set_cons_succ]
  refine wpAnyH_ready (rs := [3]) (by kernel_rfl) (by simp) ?_
  refine AllReadyH.cons rfl (fun K hK => ?_) AllReadyH.nil
  go_wp2_with fail
  refine hK.out _ _ (RB.al S3 _) (fun _ => ?_)
  have S4 : RBK w k a q wc.heap.size _ := RBK.mk S3 k 5
  clear hK K
  refine wpAnyH_narrow (S' := RBK w k a q wc.heap.size) (fun _ h => h.1) _ _ _ _ ?_
  try simp only [Act.put, List.setIfInBounds_toArray, List.set_cons_zero, List.set_cons_succ]
  refine takeD (i := 4) (d := some 10) (v := _) rfl rfl (by kernel_rfl) (by kernel_rfl) (by kernel_rfl) (fun _ _ _ h => h) (Or.inl ⟨by rfl, fun wz hz => by (have hcv := unhide BC _ _ hz.2; go_simp; try with_reducible rfl)⟩) S4 ?_
  try simp only [Act.put, List.setIfInBounds_toArray, List.set_cons_zero, List.set_cons_succ]
  refine takeD (i := 8) (d := some 14) (v := _) rfl rfl (by kernel_rfl) (by kernel_rfl) (by kernel_rfl) (fun _ _ _ h => h) (Or.inl ⟨by rfl, fun wz hz => by (go_simp; try with_reducible rfl)⟩) S4 ?_
  try simp only [Act.put, List.setIfInBounds_toArray, List.set_cons_zero, List.set_cons_succ]
  refine takeD (i := 12) (d := some 18) (v := _) rfl rfl (by kernel_rfl) (by kernel_rfl) (by kernel_rfl) (fun _ _ _ h => h) (Or.inl ⟨by rfl, fun wz hz => by (go_simp; try with_reducible rfl)⟩) S4 ?_
  try simp only [Act.put, List.setIfInBounds_toArray, List.set_cons_zero, List.set_cons_succ]
  refine takeD (i := 13) (d := some 2) (v := _) rfl rfl (by kernel_rfl) (by kernel_rfl) (by kernel_rfl) (fun _ _ _ h => h) (Or.inl ⟨by rfl, fun wz hz => by (go_simp; try with_reducible rfl)⟩) S4 ?_
  try simp only [Act.put, List.setIfInBounds_toArray, List.set_cons_zero, List.set_cons_succ]
  refine wpAnyH_done (by kernel_rfl) ?_ _
  have SX := S4
  have HBx := hide SX.1.2
  go_wp2_with fail
  go_wp2
  go_ret
  exact ⟨ret_str (unhide HP), unhide HBx⟩

end Go.Proofs.YtkpmocbfedgfhaaGreat

/-
  A number and a text come back from their bytes, and no other bytes are theirs: plain mathematics.
-/
namespace Go.Proofs.YtkpmocbfedgfhaaGreat
set_option linter.unusedVariables false
theorem getNum_cases (l : List UInt8) (i : Int) : getNum l i = (0, -1) ∨ ∃ I j : Nat, i = I ∧ stop 5 (l.drop I) = some j ∧ putNum (dv ((l.drop I).take (j + 1)) : Int) = (l.drop I).take (j + 1) ∧ getNum l i = ((dv ((l.drop I).take (j + 1)) : Int), (I : Int) + j + 1) := by
  unfold getNum
  by_cases hi : i < 0
  · rw [if_pos hi]; exact .inl rfl
  · rw [if_neg hi]
    obtain ⟨I, rfl⟩ := Int.eq_ofNat_of_zero_le (a := i) (by omega)
    rw [Int.toNat_natCast]
    cases hs : stop 5 (l.drop I) with
    | none => exact .inl rfl
    | some j =>
      simp only
      by_cases hp : putNum (dv ((l.drop I).take (j + 1)) : Int) = (l.drop I).take (j + 1)
      · rw [if_pos hp]; exact .inr ⟨I, j, rfl, hs, hp, rfl⟩
      · rw [if_neg hp]; exact .inl rfl
theorem put_form : ∀ N : Nat, ∃ q b, put N = q ++ [b] ∧ q.all hi = true ∧ b.toNat < 128 ∧ dv (put N) = N := by
  intro N
  induction N using Nat.strongRecOn with
  | _ N ih =>
    by_cases h : N < 128
    · refine ⟨[], UInt8.ofNat N, by rw [put_small h]; rfl, rfl, by rw [UInt8.toNat_ofNat']; omega, ?_⟩
      rw [put_small h]; simp only [dv, UInt8.toNat_ofNat']; omega
    · obtain ⟨q, b, h1, h2, h3, h4⟩ := ih (N / 128) (by omega)
      refine ⟨UInt8.ofNat (128 + N % 128) :: q, b, by rw [put_step h, h1]; rfl, ?_, h3, ?_⟩
      · rw [List.all_cons, h2]; simp only [hi, UInt8.toNat_ofNat', Bool.and_true, decide_eq_true_eq]; omega
      · rw [put_step h]; simp only [dv, h4, UInt8.toNat_ofNat']; omega
/-- a number comes back, whatever stands behind its bytes -/
theorem getNum_put (N : Nat) (hN : N ≤ 4000000000) (c : UInt8) (t : List UInt8) : getNum (c :: (put N ++ t)) 1 = ((N : Int), ((1 + (put N).length : Nat) : Int)) := by
  obtain ⟨q, b, h1, h2, h3, h4⟩ := put_form N
  have h5 := put_le5 hN
  have hlen : (put N).length = q.length + 1 := by rw [h1]; simp
  have hl : c :: (put N ++ t) = c :: (q ++ b :: t) := by rw [h1]; simp
  have hp0 : pre (c :: (put N ++ t)) 1 q.length = q := by rw [hl]; simp [pre]
  have hp1 : pre (c :: (put N ++ t)) 1 (q.length + 1) = put N := by rw [hl, h1]; simp [pre, List.take_append, List.take_of_length_le]
  have hget : (c :: (put N ++ t))[1 + q.length]'(by simp; omega) = b := by
    simp only [hl]
    rw [List.getElem_cons]; simp
  have := getNum_stop (l := c :: (put N ++ t)) (I := 1) (j := q.length) (by omega) (by rw [hp0]; exact h2) (by simp; omega) (by rw [hget]; exact h3)
  have e : ((1 : Nat) : Int) = 1 := rfl
  rw [e] at this
  rw [this, hp1, h4]
  have hpn : putNum (N : Int) = put N := by rw [putNum, if_pos (by omega), Int.toNat_natCast]
  rw [if_pos hpn, hlen]
  simp; omega
end Go.Proofs.YtkpmocbfedgfhaaGreat

/-
  A record of bytes: the model's answer and the program's are one; plain words.
-/
namespace Go.Proofs.YtkpmocbfedgfhaaGreat
open Go.RowKit
set_option linter.unusedVariables false
set_option linter.unusedSimpArgs false
/-- what the model's GetRec answers -/
def specGot (l : List UInt8) : Option Rc :=
  match l with
  | [] => none
  | b :: _ =>
    if (getText l (getNum l 1).2).2 < 0 ∨ putRec ⟨b.toNat, (getNum l 1).1, (getText l (getNum l 1).2).1⟩ ≠ l then none
    else some ⟨b.toNat, (getNum l 1).1, (getText l (getNum l 1).2).1⟩
theorem getNum_split (l : List UInt8) (i : Int) (h : ¬ (getNum l i).2 < 0) : 0 ≤ i ∧ 0 ≤ (getNum l i).1 ∧ (getNum l i).1 ≤ 4000000000 ∧ l.drop i.toNat = putNum (getNum l i).1 ++ l.drop (getNum l i).2.toNat := by
  unfold getNum at h ⊢
  by_cases hi : i < 0
  · simp [hi] at h
  · simp only [hi, if_false] at h ⊢
    cases hs : stop 5 (l.drop i.toNat) with
    | none => simp [hs] at h
    | some j =>
      simp only [hs] at h ⊢
      by_cases hp : putNum ((dv ((l.drop i.toNat).take (j + 1)) : Nat) : Int) = (l.drop i.toNat).take (j + 1)
      · rw [if_pos hp] at h ⊢
        have hj := stop_lt 5 _ j hs
        have hle : (dv ((l.drop i.toNat).take (j + 1)) : Int) ≤ 4000000000 := by
          apply Int.not_lt.1
          intro hlt
          have : putNum ((dv ((l.drop i.toNat).take (j + 1)) : Nat) : Int) = [] := by unfold putNum; rw [if_neg (by omega)]
          rw [this] at hp
          have h2 := congrArg List.length hp
          simp at h2 hj
          omega
        refine ⟨by omega, by simp, hle, ?_⟩
        rw [hp]
        simp only
        have e : (i + (j : Int) + 1).toNat = i.toNat + (j + 1) := by omega
        rw [e, ← List.drop_drop, List.take_append_drop]
      · rw [if_neg hp] at h
        simp at h
theorem getText_split (l : List UInt8) (i : Int) (h : ¬ (getText l i).2 < 0) : ¬ (getNum l i).2 < 0 ∧ (getText l i).1.length ≤ 2000 ∧ l.drop i.toNat = putText (getText l i).1 ++ l.drop (getText l i).2.toNat ∧ (getText l i).2 ≤ l.length := by
  unfold getText at h ⊢
  simp only at h ⊢
  by_cases hc : (getNum l i).2 < 0 ∨ 2000 < (getNum l i).1 ∨ (l.length : Int) - (getNum l i).2 < (getNum l i).1
  · rw [if_pos hc] at h; simp at h
  · rw [if_neg hc]
    have h1 : ¬ (getNum l i).2 < 0 := fun e => hc (.inl e)
    have h2 : ¬ 2000 < (getNum l i).1 := fun e => hc (.inr (.inl e))
    have h3 : ¬ (l.length : Int) - (getNum l i).2 < (getNum l i).1 := fun e => hc (.inr (.inr e))
    obtain ⟨h0, hn, hm, hsp⟩ := getNum_split l i h1
    clear hc h
    obtain ⟨⟨n, k⟩, hg⟩ : ∃ x, getNum l i = x := ⟨_, rfl⟩
    rw [hg] at h1 h2 h3 hn hm hsp ⊢
    simp only at h1 h2 h3 hn hm hsp ⊢
    have hlen : ((l.drop k.toNat).take n.toNat).length = n.toNat := by simp; omega
    refine ⟨h1, by omega, ?_, by omega⟩
    rw [hsp]
    unfold putText
    rw [hlen, if_pos (by omega)]
    have e1 : putNum n = put n.toNat := by unfold putNum; rw [if_pos (by omega)]
    have e2 : (k + n).toNat = k.toNat + n.toNat := by omega
    rw [e1, e2, ← List.drop_drop, List.append_assoc, List.take_append_drop]
theorem got_same (l : List UInt8) : specGot l = gotRec l := by
  unfold gotRec
  match l with
  | [] => rfl
  | b :: t =>
    unfold specGot readRec
    simp only
    by_cases h1 : (getNum (b :: t) 1).2 < 0
    · have hg : getText (b :: t) (getNum (b :: t) 1).2 = ([], -1) := by
        unfold getText
        simp only
        rw [getNum_neg h1]
        simp
      rw [hg, if_pos h1]
      simp [gotOf]
    · rw [if_neg h1]
      by_cases h2 : (getText (b :: t) (getNum (b :: t) 1).2).2 < 0
      · rw [if_pos (.inl h2), if_pos h2]; rfl
      · rw [if_neg h2]
        obtain ⟨_, _, _, hs1⟩ := getNum_split _ _ h1
        obtain ⟨_, _, hs2, hle⟩ := getText_split _ _ h2
        obtain ⟨⟨n, k⟩, hg⟩ : ∃ x, getNum (b :: t) 1 = x := ⟨_, rfl⟩
        rw [hg] at h1 h2 hs1 hs2 hle ⊢
        simp only at h1 h2 hs1 hs2 hle ⊢
        obtain ⟨⟨q, m⟩, hg2⟩ : ∃ x, getText (b :: t) k = x := ⟨_, rfl⟩
        rw [hg2] at h2 hs2 hle ⊢
        simp only at h2 hs2 hle ⊢
        cases ho : recOk ⟨b.toNat, n, q⟩ with
        | false =>
          have hp : putRec ⟨b.toNat, n, q⟩ = [] := by simp [putRec, ho]
          rw [if_pos (.inr (by rw [hp]; simp)), if_pos rfl]; rfl
        | true =>
          have hp : putRec ⟨b.toNat, n, q⟩ = b :: (putNum n ++ putText q) := by
            simp [putRec, ho]
          have hl : b :: t = putRec ⟨b.toNat, n, q⟩ ++ (b :: t).drop m.toNat := by
            rw [hp]
            have : t = putNum n ++ (putText q ++ (b :: t).drop m.toNat) := by rw [← hs2, ← hs1]; rfl
            rw [List.cons_append, List.append_assoc, ← this]
          rw [if_neg (show ¬ (true = false) by simp)]
          simp only [gotOf]
          by_cases hm : ((b :: t).length : Int) ≤ m
          · rw [if_pos hm, if_neg]
            rintro (h | h)
            · exact h2 h
            · apply h
              have hd : (b :: t).drop m.toNat = [] := List.drop_of_length_le (by omega)
              rw [hd, List.append_nil] at hl
              exact hl.symm
          · rw [if_neg hm, if_pos]
            right
            intro h
            rw [h] at hl
            have := congrArg List.length hl
            rw [List.length_append, List.length_drop] at this
            omega

set_option maxRecDepth 100000 in
set_option maxHeartbeats 4000000 in
theorem specGetRec_any (s : ByteArray) (w : World) (hs : s.size ≤ 1048576) :
    Calls Tryz.prog 52 #[.string s] w fun e w' => e = .returned (recAns (gotRec s.data.toList)) ∧ Below w.heap.size w w' := by
  rw [← got_same]
  have V0 := hide (blk_new w #[.int .i64 0, .int .i64 0, .string ⟨#[]⟩] 41)
  have HB0 := hide (below_al (Below.refl _ w) (.cells #[.int .i64 0, .int .i64 0, .string ⟨#[]⟩] 41))
  by_cases h0 : s.size = 0
  · have he : s.data.toList = [] := List.eq_nil_of_length_eq_zero (by rw [len_eq]; exact h0)
    have hem := str_empty h0
    rw [he]
    simp only [specGot]
    clear he h0
    go_enter Tryz.func52, Tryz.ntmps52
    go_wp2
    refine bodyPost_ret (v := recAns none) (by simp [results, Tryz.results52, go_sem, recAns, bs_nil]) rfl ⟨rfl, ?_⟩
    repeat (first | exact unhide HB0 | refine below_al ?_ _ | refine Below.drew ?_ | refine below_sc ?_ _ _ _ (by omega))
  have hem := str_full h0
  have hcons : ∃ t, s.data.toList = s[0] :: t := ⟨s.data.toList.tail, by
    have hlen := len_eq s
    match hl : s.data.toList with
    | [] => rw [hl] at hlen; simp at hlen; omega
    | a :: t =>
      simp only [List.tail_cons, List.cons.injEq, and_true]
      have : s.data.toList[0]? = some a := by rw [hl]; rfl
      have h2 : s.data.toList[0]? = some s[0] := by
        rw [List.getElem?_eq_getElem (by omega)]; rfl
      rw [h2] at this
      simpa using this.symm⟩
  have hby := byte_le s[0]
  have HX : specGot s.data.toList = if (getText s.data.toList (getNum s.data.toList 1).2).2 < 0 ∨ putRec ⟨s[0].toNat, (getNum s.data.toList 1).1, (getText s.data.toList (getNum s.data.toList 1).2).1⟩ ≠ s.data.toList then none
    else some ⟨s[0].toNat, (getNum s.data.toList 1).1, (getText s.data.toList (getNum s.data.toList 1).2).1⟩ := by
    obtain ⟨t, ht⟩ := hcons
    conv => lhs; unfold specGot
    rw [ht]
  rw [HX]
  clear HX hcons
  have CN := hide (fun wx => specGetNum_any s 1 wx hs (by omega) (by omega))
  have hnl := getNum_le s 1
  have hnn : (getNum s.data.toList 1).2 < 0 → (getNum s.data.toList 1).2 = -1 := by
    intro h
    rcases getNum_cases s.data.toList 1 with e | ⟨I, k, _, _, _, e⟩
    · rw [e]
    · rw [e] at h; simp only at h; omega
  have hjb : -1 ≤ (getNum s.data.toList 1).2 ∧ (getNum s.data.toList 1).2 ≤ 1048576 := by omega
  obtain ⟨⟨n, j⟩, hnj⟩ : ∃ x, getNum s.data.toList 1 = x := ⟨_, rfl⟩
  rw [hnj] at CN hjb ⊢
  simp only at CN hjb ⊢
  clear hnl hnn hnj
  have CT := hide (fun wx => specGetText_any s j wx hs (by omega) (by omega))
  have hql := getText_len s j
  obtain ⟨⟨q, k⟩, hqk⟩ : ∃ x, getText s.data.toList j = x := ⟨_, rfl⟩
  rw [hqk] at CT hql ⊢
  simp only at CT hql ⊢
  clear hqk
  obtain ⟨b, hb⟩ : ∃ b, s[0].toNat = b := ⟨_, rfl⟩
  have hidx : s[0].toNat = b := hb
  rw [hb] at hby ⊢
  have CP := hide (fun wx => specPutRec_any ⟨b, n, q⟩ wx hql)
  have hpos : (0 : Int) < (s.size : Int) := by omega
  by_cases hk : k < 0
  · rw [if_pos (.inl hk)]
    go_enter Tryz.func52, Tryz.ntmps52
    go_wp2_with fail
    refine (unhide CN _).mono ?_
    rintro e w1 ⟨rfl, hb⟩
    have HB1 := hide (below_on (unhide HB0) hb)
    have V1 := hide ((unhide V0).below hb)
    clear hb
    go_wp2_with fail
    refine (unhide CT _).mono ?_
    rintro e w2 ⟨rfl, hb⟩
    have HB2 := hide (below_on (unhide HB1) hb)
    have V2 := hide ((unhide V1).below hb)
    have V3 := hide ((unhide V2).al (.cells #[.int .i64 b, .int .i64 n, .string (bs q)] 41))
    clear hb
    have v0 := (unhide V3).at 0
    have v1 := (unhide V3).at 1
    have v2 := (unhide V3).at 2
    have f0 := (unhide V3).f 0
    have f1 := (unhide V3).f 1
    have f2 := (unhide V3).f 2
    simp only [List.getElem?_toArray, List.getElem?_cons_succ, List.getElem?_cons_zero] at v0 v1 v2
    have s0 := sc_same v0
    have s1 := sc_same v1
    have s2 := sc_same v2
    go_wp2
    refine bodyPost_ret (v := recAns none) (by simp [results, Tryz.results52, go_sem, recAns, bs_nil, v0, v1, v2]) rfl ⟨rfl, below_al (unhide HB2) _⟩
  · by_cases hp : putRec ⟨b, n, q⟩ = s.data.toList
    · rw [if_neg (by rintro (h | h); exact hk h; exact h hp)]
      have hcmp := str_same hp
      clear hp
      go_enter Tryz.func52, Tryz.ntmps52
      go_wp2_with fail
      refine (unhide CN _).mono ?_
      rintro e w1 ⟨rfl, hb⟩
      have HB1 := hide (below_on (unhide HB0) hb)
      have V1 := hide ((unhide V0).below hb)
      clear hb
      go_wp2_with fail
      refine (unhide CT _).mono ?_
      rintro e w2 ⟨rfl, hb⟩
      have HB2 := hide (below_on (unhide HB1) hb)
      have V2 := hide ((unhide V1).below hb)
      have V3 := hide ((unhide V2).al (.cells #[.int .i64 b, .int .i64 n, .string (bs q)] 41))
      clear hb
      have HB3 := hide (below_al (unhide HB2) (.cells #[.int .i64 b, .int .i64 n, .string (bs q)] 41))
      have U3 := hide (blk_new w2 #[.int .i64 b, .int .i64 n, .string (bs q)] 41)
      go_wp2_with fail
      refine (unhide CP _).mono ?_
      rintro e w3 ⟨rfl, hb⟩
      have HB4 := hide (below_on (unhide HB3) hb)
      have V4 := hide ((unhide V3).below hb)
      have U4 := hide ((unhide U3).below hb)
      clear hb
      have v0 := (unhide V4).at 0
      have v1 := (unhide V4).at 1
      have v2 := (unhide V4).at 2
      have f0 := (unhide V4).f 0
      have f1 := (unhide V4).f 1
      have f2 := (unhide V4).f 2
      have u0 := (unhide U4).at 0
      have u1 := (unhide U4).at 1
      have u2 := (unhide U4).at 2
      simp at v0 v1 v2 u0 u1 u2
      have hV := ((unhide V4).set 0 (.int .i64 b)).set 1 (.int .i64 n)
      have hV2 := hV.set 2 (.string (bs q))
      simp at hV2
      have x0 := hV2.at 0
      have x1 := hV2.at 1
      have x2 := hV2.at 2
      simp at x0 x1 x2
      clear hV hV2
      go_wp2
      refine bodyPost_ret (v := recAns (some ⟨b, n, q⟩)) (by simp [results, Tryz.results52, go_sem, recAns, x0, x1, x2]) rfl ⟨rfl, ?_⟩
      exact below_sc (below_sc (below_sc (unhide HB4) _ _ _ (Nat.le_refl _)) _ _ _ (Nat.le_refl _)) _ _ _ (Nat.le_refl _)
    · rw [if_pos (.inr hp)]
      have hcmp := str_other hp
      clear hp
      go_enter Tryz.func52, Tryz.ntmps52
      go_wp2_with fail
      refine (unhide CN _).mono ?_
      rintro e w1 ⟨rfl, hb⟩
      have HB1 := hide (below_on (unhide HB0) hb)
      have V1 := hide ((unhide V0).below hb)
      clear hb
      go_wp2_with fail
      refine (unhide CT _).mono ?_
      rintro e w2 ⟨rfl, hb⟩
      have HB2 := hide (below_on (unhide HB1) hb)
      have V2 := hide ((unhide V1).below hb)
      have V3 := hide ((unhide V2).al (.cells #[.int .i64 b, .int .i64 n, .string (bs q)] 41))
      clear hb
      have HB3 := hide (below_al (unhide HB2) (.cells #[.int .i64 b, .int .i64 n, .string (bs q)] 41))
      have U3 := hide (blk_new w2 #[.int .i64 b, .int .i64 n, .string (bs q)] 41)
      go_wp2_with fail
      refine (unhide CP _).mono ?_
      rintro e w3 ⟨rfl, hb⟩
      have HB4 := hide (below_on (unhide HB3) hb)
      have V4 := hide ((unhide V3).below hb)
      have U4 := hide ((unhide U3).below hb)
      clear hb
      have v0 := (unhide V4).at 0
      have v1 := (unhide V4).at 1
      have v2 := (unhide V4).at 2
      have f0 := (unhide V4).f 0
      have f1 := (unhide V4).f 1
      have f2 := (unhide V4).f 2
      have u0 := (unhide U4).at 0
      have u1 := (unhide U4).at 1
      have u2 := (unhide U4).at 2
      simp at v0 v1 v2 u0 u1 u2
      have s0 := sc_same v0
      have s1 := sc_same v1
      have s2 := sc_same v2
      go_wp2
      refine bodyPost_ret (v := recAns none) (by simp [results, Tryz.results52, go_sem, recAns, bs_nil, v0, v1, v2]) rfl ⟨rfl, unhide HB4⟩
end Go.Proofs.YtkpmocbfedgfhaaGreat

/-
  The four bytes of a sum, by both sides; walks over the dump.
-/
namespace Go.Proofs.YtkpmocbfedgfhaaGreat
open Go.RowKit
set_option linter.unusedVariables false
def word (x : Nat) : List UInt8 := [UInt8.ofNat (x / 16777216), UInt8.ofNat (x / 65536 % 256), UInt8.ofNat (x / 256 % 256), UInt8.ofNat (x % 256)]
theorem word_conv (x : Nat) (hx : x < 4294967296) (wx : World) (g : Nat) (hb : Blk wx g #[.int .u8 ((x : Int) / 16777216), .int .u8 ((x : Int) / 65536 % 256), .int .u8 ((x : Int) / 256 % 256), .int .u8 ((x : Int) % 256)] 5) : (convert 22 9 (.slice (some ⟨g, 0, none⟩) 4 4)).run Tryz.prog wx = .ok (.string (bs (word x))) wx := by
  have := run_convert_bytes_back wx 22 9 5 ⟨g, 0, none⟩ 4 (word x) Tryz.underlying22 Tryz.underlying5 Tryz.underlying9 (fun j hj => by
    have h := hb.at j
    have hj4 : j < 4 := hj
    rw [Lib.add_plain, Nat.zero_add, h]
    have e1 := byteOf (x / 16777216) (by omega)
    have e2 := byteOf (x / 65536 % 256) (by omega)
    have e3 := byteOf (x / 256 % 256) (by omega)
    have e4 := byteOf (x % 256) (by omega)
    match j, hj4 with
    | 0, _ => simp only [word, List.getElem_cons_zero, e1]; rfl
    | 1, _ => simp only [word, List.getElem_cons_zero, List.getElem_cons_succ, e2]; rfl
    | 2, _ => simp only [word, List.getElem_cons_zero, List.getElem_cons_succ, e3]; rfl
    | 3, _ => simp only [word, List.getElem_cons_zero, List.getElem_cons_succ, e4]; rfl)
  exact this

set_option maxRecDepth 100000 in
set_option maxHeartbeats 1000000 in
theorem l08Word_any (x : Nat) (w : World) (hx : x < 4294967296) :
    Calls Tryz.prog 53 #[.int .u32 (x : Int)] w fun e w' => e = .returned (.string (bs (word x))) ∧ Below w.heap.size w w' := by
  have HC := word_conv x hx _ _ (blk_new w #[.int .u8 ((x : Int) / 16777216), .int .u8 ((x : Int) / 65536 % 256), .int .u8 ((x : Int) / 256 % 256), .int .u8 ((x : Int) % 256)] 5)
  go_enter Tryz.func53, Tryz.ntmps53
  go_wp2
  go_ret
  exact ⟨rfl, below_al (Below.refl _ _) _⟩

end Go.Proofs.YtkpmocbfedgfhaaGreat

/-
  The program's reader: a sum, an entry of a log; walks over the dump.
-/
namespace Go.Proofs.YtkpmocbfedgfhaaGreat
open Go.RowKit
set_option linter.unusedVariables false
set_option linter.unusedSimpArgs false
/-- the number of k bytes, the highest first -/
def svN (s : ByteArray) (i : Nat) : Nat → Nat
  | 0 => 0
  | k + 1 => svN s i k * 256 + (s.data.toList[i + k]?.getD 0).toNat
theorem svN_lt (s : ByteArray) (i : Nat) : ∀ k, svN s i k < 256 ^ k
  | 0 => by simp [svN]
  | k + 1 => by
    have := svN_lt s i k
    have hb := (s.data.toList[i + k]?.getD 0).toNat_lt
    rw [svN, Nat.pow_succ]
    omega
theorem shl8_or (x b : Nat) (hx : x < 16777216) (hb : b < 256) : bits .or .u32 ((x * 256 : Nat) : Int) (b : Int) = ((x * 256 + b : Nat) : Int) := by
  have h := u32_or_nat (x * 256) b (by omega) (by omega)
  rw [h]
  congr 1
  rw [Nat.mul_comm x 256]
  exact (Nat.two_pow_add_eq_or_of_lt (i := 8) hb x).symm

set_option maxRecDepth 100000 in
set_option maxHeartbeats 2000000 in
theorem nextSum_any (g : Nat) (s : ByteArray) (i : Nat) (bg : Int) (w : World) (h : Rd w g s i bg) (hs : s.size ≤ 1048576) (hi : i ≤ s.size) :
    Calls Tryz.prog 57 #[rdp g] w fun e w' => Reads w g s bg (if i + 4 ≤ s.size then some (.int .u32 (svN s i 4 : Int), ((i + 4 : Nat) : Int)) else none) e w' := by
  have CB := hide (fun k wx (hr : Rd wx g s ((i + k : Nat) : Int) bg) (hk : i + k ≤ s.size) => nextByte_any g s (i + k) bg wx hr hs hk)
  have HR0 := hide h
  clear h
  go_enter Tryz.func57, Tryz.ntmps57
  go_wp2
  go_loopw [3, 4] (fun x j wr => ∃ k : Nat, k ≤ 4 ∧ i + k ≤ s.size ∧ j = .int .i64 k ∧ x = .int .u32 (svN s i k : Int) ∧ Hid (Rd wr g s ((i + k : Nat) : Int) bg) ∧ Hid (w.grownBy wr (some g))) (fun _ j _ => 4 - (intOf j).toNat)
  case atStart => exact ⟨0, by omega, by omega, rfl, rfl, HR0, hide (grownBy_refl _ _)⟩
  case round =>
    obtain ⟨k, hk, hik, rfl, rfl, HR, HG⟩ := hrel
    by_cases hlt : k < 4
    · have C := hide (unhide CB k wr (unhide HR) hik)
      by_cases hb : i + k < s.size
      · have hx4 : svN s i k < 16777216 := by
          have h1 := svN_lt s i k
          have h2 : 256 ^ k ≤ 256 ^ 3 := Nat.pow_le_pow_right (by decide) (by omega)
          omega
        have hv : s.data.toList[i + k]?.getD 0 = s[i + k] := by
          rw [List.getElem?_eq_getElem (by rw [len_eq]; exact hb)]; rfl
        have hst : svN s i (k + 1) = svN s i k * 256 + s[i + k].toNat := by rw [svN, hv]
        have C' := hide (by have := unhide C; rw [dif_pos hb] at this; exact this)
        have hby := s[i + k].toNat_lt
        obtain ⟨b, hbe⟩ : ∃ b, s[i + k].toNat = b := ⟨_, rfl⟩
        rw [hbe] at C' hst hby
        have HST := hide hst
        obtain ⟨x, hx⟩ : ∃ x, svN s i k = x := ⟨_, rfl⟩
        rw [hx] at hx4 HST ⊢
        have hor : bits .or .u32 ((x : Int) * 256) (b : Int) = (x : Int) * 256 + (b : Int) := by have := shl8_or x b hx4 hby; push_cast at this; exact this
        have hb2 : (b : Int) ≤ 255 := by omega
        have hw5 : (x : Int) * 256 % 4294967296 = (x : Int) * 256 := by omega
        clear hv hst hbe hx C hx4 hby
        go_wp2_with fail
        refine (unhide C').mono ?_
        rintro e w1 ⟨hg, rfl, hr⟩
        have HG1 := hide (grownBy_trans (unhide HG) hg)
        have e1 : ((i + (k + 1) : Nat) : Int) = ((i + k : Nat) : Int) + 1 := by omega
        have HR1 := hide (show Rd w1 g s ((i + (k + 1) : Nat) : Int) bg by rw [e1]; exact hr)
        clear e1
        clear hg hr
        go_wp2
        go_roundw
        case rel => exact ⟨k + 1, by omega, by omega, by go_num, by rw [unhide HST]; push_cast; rfl, HR1, HG1⟩
        case measure => simp [intOf]; omega
      · have C' := hide (by have := unhide C; rw [dif_neg hb] at this; exact this)
        clear C
        go_wp2_with fail
        refine (unhide C').mono ?_
        rintro e w1 ⟨hg, rfl, hr⟩
        have HG1 := hide (grownBy_trans (unhide HG) hg)
        have HR1 := hide hr
        clear hg hr
        go_wp2
        try rw [if_neg (by omega)]
        exact ⟨rfl, unhide HG1, rfl, unhide HR1⟩
    · have hk4 : k = 4 := by omega
      subst hk4
      go_wp2
      go_ret
      try rw [if_pos hik]
      exact ⟨unhide HG, rfl, unhide HR⟩
end Go.Proofs.YtkpmocbfedgfhaaGreat

/-
  The program's reader: an entry of a log; a walk over the dump.
-/
namespace Go.Proofs.YtkpmocbfedgfhaaGreat
open Go.RowKit
set_option linter.unusedVariables false
set_option linter.unusedSimpArgs false
/-- the record that a log's entry at a byte holds, and behind which byte it ends -/
def readEntry (s : ByteArray) (i : Nat) : Option (Rc × Int) :=
  if s.size < i + 4 then none
  else if (getText s.data.toList ((i + 4 : Nat) : Int)).2 < 0 then none
  else match gotRec (getText s.data.toList ((i + 4 : Nat) : Int)).1 with
    | none => none
    | some r => if crc (getText s.data.toList ((i + 4 : Nat) : Int)).1 = svN s i 4 then some (r, (getText s.data.toList ((i + 4 : Nat) : Int)).2) else none
theorem getText_len2 (l : List UInt8) (i : Int) : (getText l i).1.length ≤ 2000 := by
  by_cases h : (getText l i).2 < 0
  · unfold getText at h ⊢
    simp only at h ⊢
    split
    · simp
    · rename_i hc
      simp only [List.length_take]
      omega
  · exact (getText_split l i h).2.1

set_option maxRecDepth 100000 in
set_option maxHeartbeats 4000000 in
theorem nextEntry_any (g : Nat) (s : ByteArray) (i : Nat) (bg : Int) (w : World) (h : Rd w g s i bg) (hs : s.size ≤ 1048576) (hi : i ≤ s.size) :
    Calls Tryz.prog 31 #[rdp g] w fun e w' => Reads w g s i ((readEntry s i).map (fun x => (rcv x.1, x.2))) e w' := by
  have hgl : g < w.heap.size := Rd.lt h
  have hBg : w.heap.size ≠ g := by omega
  have CS := hide (fun wx (hr : Rd wx g s i i) => nextSum_any g s i i wx hr hs hi)
  have CT := hide (fun wx (hr : Rd wx g s ((i + 4 : Nat) : Int) i) (h4 : i + 4 ≤ s.size) => nextText_any g s ((i + 4 : Nat) : Int) i wx hr hs (by omega) (by omega))
  have k1 := (Rd.al h (.cells #[.int .i64 0, .int .i64 0, .string ⟨#[]⟩] 41)).at 1
  have k2 := (Rd.al h (.cells #[.int .i64 0, .int .i64 0, .string ⟨#[]⟩] 41)).at 2
  have kf := (Rd.al h (.cells #[.int .i64 0, .int .i64 0, .string ⟨#[]⟩] 41)).f 2
  simp only [List.getElem?_toArray, List.getElem?_cons_succ, List.getElem?_cons_zero] at k1 k2
  have HR0 := hide (Rd.begin (Rd.al h (.cells #[.int .i64 0, .int .i64 0, .string ⟨#[]⟩] 41)) (i : Int))
  have V0 := hide ((blk_new w #[.int .i64 0, .int .i64 0, .string ⟨#[]⟩] 41).other g 2 (.int .i64 (i : Int)) hBg)
  have G0 := hide (grownBy_set (gby_below (r := some g) (below_al (Below.refl _ w) (.cells #[.int .i64 0, .int .i64 0, .string ⟨#[]⟩] 41))) 2 (.int .i64 (i : Int)))
  rw [set_old _ _ _ _ _ hgl] at HR0 V0 G0
  clear h
  by_cases h4 : i + 4 ≤ s.size
  case neg =>
    have HX : readEntry s i = none := by unfold readEntry; rw [if_pos (by omega)]
    rw [HX]
    simp only [Option.map_none]
    have CS' := hide (fun wx hr => by have := unhide CS wx hr; rw [if_neg h4] at this; exact this)
    clear CS HX
    go_enter Tryz.func31, Tryz.ntmps31
    go_wp2_with fail
    refine (unhide CS' _ (unhide HR0)).mono ?_
    rintro e w1 ⟨hg, rfl, hr⟩
    have HG := hide (grownBy_trans (unhide G0) hg)
    have HR := hide hr
    clear hg hr
    go_wp2
    exact ⟨rfl, unhide HG, rfl, unhide HR⟩
  have CS' := hide (fun wx hr => by have := unhide CS wx hr; rw [if_pos h4] at this; exact this)
  have CT' := hide (fun wx hr => unhide CT wx hr h4)
  have hx4 := svN_lt s i 4
  have HX : readEntry s i = if (getText s.data.toList ((i + 4 : Nat) : Int)).2 < 0 then none
    else match gotRec (getText s.data.toList ((i + 4 : Nat) : Int)).1 with
    | none => none
    | some r => if crc (getText s.data.toList ((i + 4 : Nat) : Int)).1 = svN s i 4 then some (r, (getText s.data.toList ((i + 4 : Nat) : Int)).2) else none := by
    conv => lhs; unfold readEntry
    rw [if_neg (by omega)]
  rw [HX]
  clear HX CS CT
  have htl := getText_len2 s.data.toList ((i + 4 : Nat) : Int)
  obtain ⟨⟨t, j⟩, htj⟩ : ∃ x, getText s.data.toList ((i + 4 : Nat) : Int) = x := ⟨_, rfl⟩
  rw [htj] at CT' htl ⊢
  simp only at CT' htl ⊢
  clear htj
  obtain ⟨x, hx⟩ : ∃ x, svN s i 4 = x := ⟨_, rfl⟩
  rw [hx] at CS' hx4 ⊢
  clear hx
  by_cases hj : j < 0
  · rw [if_pos hj]
    simp only [Option.map_none]
    have CT2 := hide (fun wx hr => by have := unhide CT' wx hr; rw [if_pos hj] at this; exact this)
    clear CT'
    go_enter Tryz.func31, Tryz.ntmps31
    go_wp2_with fail
    refine (unhide CS' _ (unhide HR0)).mono ?_
    rintro e w1 ⟨hg, rfl, hr⟩
    have HG := hide (grownBy_trans (unhide G0) hg)
    have HR := hide hr
    clear hg hr
    go_wp2_with fail
    refine (unhide CT2 _ (unhide HR)).mono ?_
    rintro e w2 ⟨hg, rfl, hr⟩
    have HG2 := hide (grownBy_trans (unhide HG) hg)
    have HR2 := hide hr
    clear hg hr
    go_wp2
    exact ⟨rfl, unhide HG2, rfl, unhide HR2⟩
  rw [if_neg hj]
  have CT2 := hide (fun wx hr => by have := unhide CT' wx hr; rw [if_neg hj] at this; exact this)
  clear CT'
  have CG := hide (fun wx => by have := implGetRec_any (bs t) wx (by rw [bs_size]; omega); rw [show gotRec (bs t).data.toList = gotRec t from rfl] at this; exact this)
  have CC := hide (fun wx (hr : Rd wx g s j i) => by have := sumOf_anyR (P := (.string s, .int .i64 j, .int .i64 i)) g (bs t) wx (by rw [bs_size]; omega) hr; rw [show crc (bs t).data.toList = crc t from rfl] at this; exact this)
  have CF := hide (fun wx (hr : Rd wx g s j i) => fail_any g s j i wx hr)
  have hcl : crc t < 4294967296 := xor_lt32 (crcTo_lt _) (by decide)
  obtain ⟨c, hc⟩ : ∃ c, crc t = c := ⟨_, rfl⟩
  rw [hc] at CC hcl ⊢
  clear hc
  obtain ⟨o, ho⟩ : ∃ o, gotRec t = o := ⟨_, rfl⟩
  rw [ho] at CG ⊢
  clear ho
  cases o with
  | none =>
    simp only [recAns] at CG
    simp only [Option.map_none]
    go_enter Tryz.func31, Tryz.ntmps31
    go_wp2_with fail
    refine (unhide CS' _ (unhide HR0)).mono ?_
    rintro e w1 ⟨hg, rfl, hr⟩
    have HG := hide (grownBy_trans (unhide G0) hg)
    have HR := hide hr
    clear hg hr
    go_wp2_with fail
    refine (unhide CT2 _ (unhide HR)).mono ?_
    rintro e w2 ⟨hg, rfl, hr⟩
    have HG2 := hide (grownBy_trans (unhide HG) hg)
    have HR2 := hide hr
    clear hg hr
    go_wp2_with fail
    refine (unhide CG _).mono ?_
    rintro e w3 ⟨rfl, hb⟩
    have HG3 := hide (grownBy_below (grownBy_below (unhide HG2) hb) (below_al (Below.refl _ _) (.cells #[.int .i64 0, .int .i64 0, .string (bs [])] 41)))
    have HR3 := hide (show Rd _ g s j i from Rd.al (Rd.below (unhide HR2) hb) (.cells #[.int .i64 0, .int .i64 0, .string (bs [])] 41))
    clear hb
    go_wp2_with fail
    refine (unhide CF _ (unhide HR3)).mono ?_
    rintro e w4 ⟨rfl, rfl⟩
    go_wp2
    exact ⟨rfl, unhide HG3, rfl, _, unhide HR3⟩
  | some r =>
    obtain ⟨rk, ra, rq⟩ := r
    simp only [recAns] at CG
    by_cases hcx : c = x
    case neg =>
      simp only [if_neg hcx, Option.map_none]
      have hne : ((c : Int) == (x : Int)) = false := by simp; omega
      have hne2 : ¬ (c : Int) = (x : Int) := by omega
      clear hcx
      go_enter Tryz.func31, Tryz.ntmps31
      go_wp2_with fail
      refine (unhide CS' _ (unhide HR0)).mono ?_
      rintro e w1 ⟨hg, rfl, hr⟩
      have HG := hide (grownBy_trans (unhide G0) hg)
      have HR := hide hr
      clear hg hr
      go_wp2_with fail
      refine (unhide CT2 _ (unhide HR)).mono ?_
      rintro e w2 ⟨hg, rfl, hr⟩
      have HG2 := hide (grownBy_trans (unhide HG) hg)
      have HR2 := hide hr
      clear hg hr
      go_wp2_with fail
      refine (unhide CG _).mono ?_
      rintro e w3 ⟨rfl, hb⟩
      have HG3 := hide (grownBy_below (grownBy_below (unhide HG2) hb) (below_al (Below.refl _ _) (.cells #[.int .i64 rk, .int .i64 ra, .string (bs rq)] 41)))
      have HR3 := hide (show Rd _ g s j i from Rd.al (Rd.below (unhide HR2) hb) (.cells #[.int .i64 rk, .int .i64 ra, .string (bs rq)] 41))
      clear hb
      go_wp2_with fail
      refine (unhide CC _ (unhide HR3)).mono ?_
      rintro e w4 ⟨rfl, hr4, hg4⟩
      have HG4 := hide (grownBy_trans (unhide HG3) hg4)
      have HR4 := hide (show Rd w4 g s j i from hr4)
      clear hr4 hg4
      go_wp2_with fail
      refine (unhide CF _ (unhide HR4)).mono ?_
      rintro e w5 ⟨rfl, rfl⟩
      go_wp2
      exact ⟨rfl, unhide HG4, rfl, _, unhide HR4⟩
    · subst hcx
      simp only [if_true, Option.map_some]
      go_enter Tryz.func31, Tryz.ntmps31
      go_wp2_with fail
      refine (unhide CS' _ (unhide HR0)).mono ?_
      rintro e w1 ⟨hg, rfl, hr⟩
      have HG := hide (grownBy_trans (unhide G0) hg)
      have HR := hide hr
      have V1 := hide ((unhide V0).gby hg hBg)
      clear hg hr
      go_wp2_with fail
      refine (unhide CT2 _ (unhide HR)).mono ?_
      rintro e w2 ⟨hg, rfl, hr⟩
      have HG2 := hide (grownBy_trans (unhide HG) hg)
      have HR2 := hide hr
      have V2 := hide ((unhide V1).gby hg hBg)
      clear hg hr
      go_wp2_with fail
      refine (unhide CG _).mono ?_
      rintro e w3 ⟨rfl, hb⟩
      have HG3 := hide (grownBy_below (grownBy_below (unhide HG2) hb) (below_al (Below.refl _ _) (.cells #[.int .i64 rk, .int .i64 ra, .string (bs rq)] 41)))
      have HR3 := hide (show Rd _ g s j i from Rd.al (Rd.below (unhide HR2) hb) (.cells #[.int .i64 rk, .int .i64 ra, .string (bs rq)] 41))
      have V3 := hide (((unhide V2).below hb).al (.cells #[.int .i64 rk, .int .i64 ra, .string (bs rq)] 41))
      have U3 := hide (blk_new w3 #[.int .i64 rk, .int .i64 ra, .string (bs rq)] 41)
      have hg3 : g < w3.heap.size := (Rd.below (unhide HR2) hb).lt
      clear hb
      go_wp2_with fail
      refine (unhide CC _ (unhide HR3)).mono ?_
      rintro e w4 ⟨rfl, hr4, hg4⟩
      have HG4 := hide (grownBy_trans (unhide HG3) hg4)
      have HR4 := hide (show Rd w4 g s j i from hr4)
      have V4 := hide ((unhide V3).gby hg4 hBg)
      have U4 := hide ((unhide U3).gby hg4 (by omega))
      have u0 := (unhide U4).at 0
      have u1 := (unhide U4).at 1
      have u2 := (unhide U4).at 2
      have v0 := (unhide V4).at 0
      have v1 := (unhide V4).at 1
      have v2 := (unhide V4).at 2
      have f0 := (unhide V4).f 0
      have f1 := (unhide V4).f 1
      have f2 := (unhide V4).f 2
      simp at u0 u1 u2 v0 v1 v2
      clear hr4 hg4
      have hV := ((unhide V4).set 0 (.int .i64 rk)).set 1 (.int .i64 ra)
      have hV2 := hV.set 2 (.string (bs rq))
      simp at hV2
      have x0 := hV2.at 0
      have x1 := hV2.at 1
      have x2 := hV2.at 2
      simp at x0 x1 x2
      have HF := hide (show Rd _ g s j i from Rd.other (Rd.other (Rd.other (unhide HR4) w.heap.size 0 (.int .i64 rk) (Ne.symm hBg)) w.heap.size 1 (.int .i64 ra) (Ne.symm hBg)) w.heap.size 2 (.string (bs rq)) (Ne.symm hBg))
      clear hV hV2
      go_wp2
      refine bodyPost_ret (v := rcv ⟨rk, ra, rq⟩) (by simp [results, Tryz.results31, go_sem, x0, x1, x2]) rfl ⟨?_, rfl, unhide HF⟩
      exact grownBy_new (grownBy_new (grownBy_new (unhide HG4) _ _ _ (Nat.le_refl _)) _ _ _ (Nat.le_refl _)) _ _ _ (Nat.le_refl _)
end Go.Proofs.YtkpmocbfedgfhaaGreat

/-
  The closure that Read defers: it recovers what the reader panics with; walks over the dump.
-/
namespace Go.Proofs.YtkpmocbfedgfhaaGreat
open Go.RowKit
set_option linter.unusedVariables false
set_option linter.unusedSimpArgs false
set_option maxRecDepth 100000 in
set_option maxHeartbeats 1500000 in
theorem catchR_panicking (g : Nat) (x0 : Int) (bg : Int) (older : List PanicEntry) (w : World) (h1 : Blk w g #[.int .i64 x0] 3) :
    CallsD Tryz.prog 28 #[.pointer (some ⟨g, 0, none⟩)] (.panicking (perr bg :: older)) w fun e u' w' =>
      e = .returned (.tuple #[]) ∧ u' = .panicking ({ perr bg with recovered := true } :: older) ∧ Blk w' g #[.int .i64 bg] 3 ∧ w.grownBy w' (some g) := by
  have H1 := hide h1
  clear h1
  refine callsD_of_wpS Tryz.func28 rfl fun c₀ cs hu => ?_
  apply wpS_seq
  apply wpS_region
  rw [Tryz.ntmps28, show ∀ x : Value, #[x] ++ Array.replicate (11 - #[x].size) undef = #[x, undef, undef, undef, undef, undef, undef, undef, undef, undef, undef] from fun _ => rfl]
  simp only [List.size_toArray, List.length_cons, List.length_nil, Nat.zero_add, Nat.reduceAdd, List.range, List.range.loop]
  refine opsS_rec (w' := w) (d := some 4) rfl rfl rfl (by simp [go_sem]) (v := .iface 68 (.agg #[.int .i64 bg])) (cs' := { c₀ with mode := .panicking ({ perr bg with recovered := true } :: older) } :: cs) (by simp [recoverD, hu]) ?_
  simp only [Act.put, List.setIfInBounds_toArray, List.set_cons_zero, List.set_cons_succ]
  refine opsS_call (w' := w) (f := 29) (args := #[.iface 68 (.agg #[.int .i64 bg])]) (d := some 5) rfl rfl rfl (by simp [go_sem]) (failure_yes bg w) ?_
  rintro e w1 ⟨rfl, hb⟩
  refine ⟨_, rfl, ?_⟩
  have HB := hide hb
  have G1 := hide ((unhide H1).below hb)
  clear hb
  simp only [Act.put, List.setIfInBounds_toArray, List.set_cons_zero, List.set_cons_succ]
  refine opsS_val (v := .tuple #[.agg #[.int .i64 bg], .bool true]) (w' := w1) (d := some 3) rfl rfl rfl (by simp [go_sem]) ?_
  simp only [Act.put, List.setIfInBounds_toArray, List.set_cons_zero, List.set_cons_succ]
  refine opsS_val (v := .agg #[.int .i64 bg]) (w' := w1) (d := some 6) rfl rfl rfl (by simp [go_sem]) ?_
  simp only [Act.put, List.setIfInBounds_toArray, List.set_cons_zero, List.set_cons_succ]
  refine opsS_val (v := .bool true) (w' := w1) (d := some 7) rfl rfl rfl (by simp [go_sem]) ?_
  simp only [Act.put, List.setIfInBounds_toArray, List.set_cons_zero, List.set_cons_succ]
  refine opsS_val (v := .pointer (some ⟨w1.heap.size, 0, none⟩)) (w' := w1.alloc (.cells #[.int .i64 0] 68)) (d := some 1) rfl rfl rfl (by simp [go_sem]) ?_
  simp only [Act.put, List.setIfInBounds_toArray, List.set_cons_zero, List.set_cons_succ]
  refine opsS_skip (w' := w1.alloc (.cells #[.int .i64 bg] 68)) (d := none) rfl rfl rfl (by simp [go_sem]) ?_
  simp only [Act.put, List.setIfInBounds_toArray, List.set_cons_zero, List.set_cons_succ]
  refine opsS_val (v := .bool true) (w' := w1.alloc (.cells #[.int .i64 bg] 68)) (d := some 2) rfl rfl rfl (by simp [go_sem]) ?_
  simp only [Act.put, List.setIfInBounds_toArray, List.set_cons_zero, List.set_cons_succ]
  refine opsS_nil ?_
  refine wpS_of_wp ?_
  have k0 := ((unhide G1).al (.cells #[.int .i64 bg] 68)).at 0
  have f0 := ((unhide G1).al (.cells #[.int .i64 bg] 68)).f 0
  have W1 := hide ((unhide G1).al (.cells #[.int .i64 bg] 68))
  have e0 := (blk_new w1 #[.int .i64 bg] 68).at 0
  have HBL := hide (gby_below (r := some g) (below_al (unhide HB) (.cells #[.int .i64 bg] 68)))
  simp only [List.getElem?_toArray, List.getElem?_cons_succ, List.getElem?_cons_zero] at k0 e0
  obtain ⟨W, hW⟩ : ∃ W, w1.alloc (.cells #[.int .i64 bg] 68) = W := ⟨_, rfl⟩
  rw [hW] at k0 f0 e0 W1 HBL ⊢
  clear hW HB G1 H1
  go_wp2
  refine ⟨rfl, _, rfl, .tuple #[], by simp [results, Tryz.results28, go_sem], rfl, rfl, ?_, grownBy_set (unhide HBL) _ _⟩
  simpa using (unhide W1).set 0 (.int .i64 bg)

set_option maxRecDepth 100000 in
set_option maxHeartbeats 1500000 in
theorem catchR_idle (g : Nat) (x0 : Int) (w : World) (h1 : Blk w g #[.int .i64 x0] 3) :
    CallsD Tryz.prog 28 #[.pointer (some ⟨g, 0, none⟩)] .returning w fun e u' w' =>
      e = .returned (.tuple #[]) ∧ u' = .returning ∧ Below w.heap.size w w' := by
  have H1 := hide h1
  clear h1
  refine callsD_of_wpS Tryz.func28 rfl fun c₀ cs hu => ?_
  apply wpS_seq
  apply wpS_region
  rw [Tryz.ntmps28, show ∀ x : Value, #[x] ++ Array.replicate (11 - #[x].size) undef = #[x, undef, undef, undef, undef, undef, undef, undef, undef, undef, undef] from fun _ => rfl]
  simp only [List.size_toArray, List.length_cons, List.length_nil, Nat.zero_add, Nat.reduceAdd, List.range, List.range.loop]
  refine opsS_rec0 (w' := w) (d := some 4) rfl rfl rfl (by simp [go_sem]) (by simp [recoverD, hu]) ?_
  simp only [Act.put, List.setIfInBounds_toArray, List.set_cons_zero, List.set_cons_succ]
  refine opsS_call (w' := w) (f := 29) (args := #[.nilIface]) (d := some 5) rfl rfl rfl (by simp [go_sem]) (failure_no w) ?_
  rintro e w1 ⟨rfl, hb⟩
  refine ⟨_, rfl, ?_⟩
  have HB := hide hb
  have G1 := hide ((unhide H1).below hb)
  clear hb
  simp only [Act.put, List.setIfInBounds_toArray, List.set_cons_zero, List.set_cons_succ]
  refine opsS_val (v := .tuple #[.agg #[.int .i64 0], .bool false]) (w' := w1) (d := some 3) rfl rfl rfl (by simp [go_sem]) ?_
  simp only [Act.put, List.setIfInBounds_toArray, List.set_cons_zero, List.set_cons_succ]
  refine opsS_val (v := .agg #[.int .i64 0]) (w' := w1) (d := some 6) rfl rfl rfl (by simp [go_sem]) ?_
  simp only [Act.put, List.setIfInBounds_toArray, List.set_cons_zero, List.set_cons_succ]
  refine opsS_val (v := .bool false) (w' := w1) (d := some 7) rfl rfl rfl (by simp [go_sem]) ?_
  simp only [Act.put, List.setIfInBounds_toArray, List.set_cons_zero, List.set_cons_succ]
  refine opsS_val (v := .pointer (some ⟨w1.heap.size, 0, none⟩)) (w' := w1.alloc (.cells #[.int .i64 0] 68)) (d := some 1) rfl rfl rfl (by simp [go_sem]) ?_
  simp only [Act.put, List.setIfInBounds_toArray, List.set_cons_zero, List.set_cons_succ]
  refine opsS_skip (w' := w1.alloc (.cells #[.int .i64 0] 68)) (d := none) rfl rfl rfl (by simp [go_sem]) ?_
  simp only [Act.put, List.setIfInBounds_toArray, List.set_cons_zero, List.set_cons_succ]
  refine opsS_val (v := .bool false) (w' := w1.alloc (.cells #[.int .i64 0] 68)) (d := some 2) rfl rfl rfl (by simp [go_sem]) ?_
  simp only [Act.put, List.setIfInBounds_toArray, List.set_cons_zero, List.set_cons_succ]
  refine opsS_nil ?_
  refine wpS_of_wp ?_
  have HBL := hide (below_al (unhide HB) (.cells #[.int .i64 0] 68))
  go_wp2
  refine ⟨rfl, .returning, ?_, .tuple #[], by simp [results, Tryz.results28, go_sem], rfl, rfl, unhide HBL⟩
  cases c₀
  simp_all
end Go.Proofs.YtkpmocbfedgfhaaGreat
