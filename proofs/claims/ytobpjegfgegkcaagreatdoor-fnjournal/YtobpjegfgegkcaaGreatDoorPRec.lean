/-
  The bytes of a record, by both sides; walks over the dump.
-/
import Derived.Test.YtobpjegfgegkcaaGreatDoorPackB
import Derived.Test.YtobpjegfgegkcaaGreatDoorPackD
import Derived.Laws.IdiomStrings
import Derived.Deep.RegionWith
import Derived.Deep.RegionHeld3
import Derived.Deep.CutRange
namespace Go.Proofs.YtobpjegfgegkcaaGreatDoor
open Go.RowKit
set_option linter.unusedVariables false
def putRec (r : Rc) : List UInt8 := if recOk r = true then UInt8.ofNat r.kind.toNat :: (putNum r.app ++ putText r.queue) else []
theorem putNum_le (n : Int) : (putNum n).length ≤ 5 := by
  unfold putNum; split
  · exact put_le5 (by omega)
  · simp
theorem putText_le (l : List UInt8) : (putText l).length ≤ 2005 := by
  unfold putText; split
  · rw [List.length_append]; have := put_le5 (u := l.length) (by omega); omega
  · simp
theorem putRec_le (r : Rc) : (putRec r).length ≤ 2011 := by
  unfold putRec; split
  · have := putNum_le r.app; have := putText_le r.queue; simp; omega
  · simp
theorem byte_conv (k : Int) (h0 : 0 ≤ k) (h1 : k ≤ 2) (wx : World) (g : Nat) (hb : Blk wx g #[.int .u8 k] 5) : (convert 22 9 (.slice (some ⟨g, 0, none⟩) 1 1)).run Tryz.prog wx = .ok (.string (bs [UInt8.ofNat k.toNat])) wx := by
  have := run_convert_bytes_back wx 22 9 5 ⟨g, 0, none⟩ 1 [UInt8.ofNat k.toNat] Tryz.underlying22 Tryz.underlying5 Tryz.underlying9 (fun j hj => by
    have h := hb.at 0
    have e : j = 0 := by simpa using hj
    subst e
    simp at h
    have : (UInt8.ofNat k.toNat).toNat = k.toNat := by rw [UInt8.toNat_ofNat']; omega
    rw [Lib.add_plain, Nat.zero_add, h]
    simp only [List.getElem_cons_zero, this]
    congr 2; omega)
  exact this
theorem bs_three (a b c : List UInt8) : bs a ++ bs b ++ bs c = bs (a ++ (b ++ c)) := by
  apply ByteArray.ext
  simp [bs, ByteArray.data_append]

/-- the record's own block stands, and nothing below has turned -/
def RB (w : World) (k a : Int) (q : List UInt8) (wx : World) : Prop := Blk wx w.heap.size #[.int .i64 k, .int .i64 a, .string (bs q)] 25 ∧ Below w.heap.size w wx
theorem RB.al {w wx : World} {k a : Int} {q : List UInt8} (h : RB w k a q wx) (o : Obj) : RB w k a q (wx.alloc o) := ⟨h.1.al o, below_al h.2 o⟩
theorem RB.call {w wx wy : World} {k a : Int} {q : List UInt8} (h : RB w k a q wx) (hb : Below wx.heap.size wx wy) : RB w k a q wy := ⟨h.1.below hb, below_on h.2 hb⟩
/-- and so does the block of one byte -/
def RBK (w : World) (k a : Int) (q : List UInt8) (g : Nat) (wx : World) : Prop := RB w k a q wx ∧ Blk wx g #[.int .u8 k] 5
theorem RBK.mk {w wx : World} {k a : Int} {q : List UInt8} (h : RB w k a q wx) (x : Int) (t : TypeId) : RB w k a q (wx.alloc (.cells #[.int .u8 x] t)) ∧ Blk (wx.alloc (.cells #[.int .u8 x] t)) wx.heap.size #[.int .u8 x] t := ⟨h.al _, blk_new wx _ t⟩
theorem RBK.call {w wx wy : World} {k a : Int} {q : List UInt8} {g : Nat} (h : RBK w k a q g wx) (hb : Below wx.heap.size wx wy) : RBK w k a q g wy := ⟨h.1.call hb, h.2.below hb⟩

set_option maxRecDepth 100000 in
set_option maxHeartbeats 4000000 in
theorem specPutRec_any (r : Rc) (w : World) (hq : r.queue.length ≤ 1048576) :
    Calls Tryz.prog 14 #[rcv r] w fun e w' => e = .returned (.string (bs (putRec r))) ∧ Below w.heap.size w w' := by
  obtain ⟨k, a, q⟩ := r
  simp only at hq
  have CO := hide (fun wx => specRecOk_any ⟨k, a, q⟩ wx hq)
  have K0 := hide (blk_new w #[.int .i64 k, .int .i64 a, .string (bs q)] 25)
  have HB0 := hide (below_al (Below.refl _ w) (.cells #[.int .i64 k, .int .i64 a, .string (bs q)] 25))
  by_cases ho : recOk ⟨k, a, q⟩ = true
  case neg =>
    rw [Bool.not_eq_true] at ho
    have HP : putRec ⟨k, a, q⟩ = [] := by simp [putRec, ho]
    rw [ho] at CO
    rw [HP]
    clear ho HP
    go_enter Tryz.func14, Tryz.ntmps14
    go_wp2_with fail
    refine (unhide CO _).mono ?_
    rintro e w1 ⟨rfl, hb⟩
    have HB1 := hide (below_on (unhide HB0) hb)
    clear hb
    go_wp2
    go_ret
    exact ⟨rfl, unhide HB1⟩
  obtain ⟨b0, b1, b2, b3, b4⟩ := recOk_bd ho
  simp only at b0 b1 b2 b3 b4
  have HP := hide (show bs [UInt8.ofNat k.toNat] ++ bs (putNum a) ++ bs (putText q) = bs (putRec ⟨k, a, q⟩) by rw [bs_three]; simp [putRec, ho])
  rw [ho] at CO
  clear ho
  obtain ⟨s1, hs1⟩ : ∃ s, bs [UInt8.ofNat k.toNat] = s := ⟨_, rfl⟩
  obtain ⟨s2, hs2⟩ : ∃ s, bs (putNum a) = s := ⟨_, rfl⟩
  obtain ⟨s3, hs3⟩ : ∃ s, bs (putText q) = s := ⟨_, rfl⟩
  have z1 : s1.size = 1 := by rw [← hs1, bs_size]; rfl
  have z2 : s2.size ≤ 5 := by rw [← hs2, bs_size]; exact putNum_le a
  have z3 : s3.size ≤ 2005 := by rw [← hs3, bs_size]; exact putText_le q
  have n1 : ¬ 9223372036854775807 < s1.size + s2.size := by omega
  have n2 : ¬ 9223372036854775807 < s1.size + s2.size + s3.size := by omega
  clear z1 z2 z3
  have BC := hide (fun wx g hb => byte_conv k b0 b1 wx g hb)
  rw [hs1] at BC HP
  rw [hs2, hs3] at HP
  have C1 := hide (fun wx => by have := specPutNum_any a wx; rw [hs2] at this; exact this)
  have C2 := hide (fun wx => by have := specPutText_any (bs q) wx (by rw [bs_size]; exact hq); rw [show bs (putText (bs q).data.toList) = s3 from hs3] at this; exact this)
  have kw : IntKind.u8.wrap k = k := by simp [IntKind.wrap_u8]; omega
  clear hs1 hs2 hs3
  go_enter Tryz.func14, Tryz.ntmps14
  go_wp2_with fail
  refine (unhide CO _).mono ?_
  rintro e w1 ⟨rfl, hb⟩
  have HB1 := hide (below_on (unhide HB0) hb)
  have K1 := hide ((unhide K0).below hb)
  clear hb CO HB0 K0
  go_wp2_with fail
  refine wp_region_held_drew (S := RB w k a q) (by kernel_rfl) (show RB w k a q w1.drew from ⟨unhide K1, (unhide HB1).drew⟩) (fun S0 => ?_)
  have R : ∀ wz, RB w k a q wz → wz.cell? ⟨w.heap.size, 0, none⟩ = some (.int .i64 k) ∧ wz.cell? ⟨w.heap.size, 1, none⟩ = some (.int .i64 a) ∧ wz.cell? ⟨w.heap.size, 2, none⟩ = some (.string (bs q)) := fun wz h => ⟨by simpa using h.1.at 0, by simpa using h.1.at 1, by simpa using h.1.at 2⟩
  refine takeD (i := 0) (d := some 6) (v := _) rfl rfl (by kernel_rfl) (by kernel_rfl) (by kernel_rfl) (fun _ _ _ h => h) (Or.inl ⟨by rfl, fun wz hz => by (obtain ⟨r0, r1, r2⟩ := R wz hz; go_simp; try with_reducible rfl)⟩) S0 ?_
  try simp only [Act.put, List.setIfInBounds_toArray, List.set_cons_zero, List.set_cons_succ]
  refine takeD (i := 1) (d := some 7) (v := _) rfl rfl (by kernel_rfl) (by kernel_rfl) (by kernel_rfl) (fun _ _ _ h => h) (Or.inl ⟨by rfl, fun wz hz => by (obtain ⟨r0, r1, r2⟩ := R wz hz; go_simp; try with_reducible rfl)⟩) S0 ?_
  try simp only [Act.put, List.setIfInBounds_toArray, List.set_cons_zero, List.set_cons_succ]
  refine takeD (i := 2) (d := some 8) (v := _) rfl rfl (by kernel_rfl) (by kernel_rfl) (by kernel_rfl) (fun _ _ _ h => h) (Or.inl ⟨by rfl, fun wz hz => by (obtain ⟨r0, r1, r2⟩ := R wz hz; go_simp; try with_reducible rfl)⟩) S0 ?_
  try simp only [Act.put, List.setIfInBounds_toArray, List.set_cons_zero, List.set_cons_succ]
  refine takeD (i := 5) (d := some 11) (v := _) rfl rfl (by kernel_rfl) (by kernel_rfl) (by kernel_rfl) (fun _ _ _ h => h) (Or.inl ⟨by rfl, fun wz hz => by (obtain ⟨r0, r1, r2⟩ := R wz hz; go_simp; try with_reducible rfl)⟩) S0 ?_
  try simp only [Act.put, List.setIfInBounds_toArray, List.set_cons_zero, List.set_cons_succ]
  refine takeD (i := 6) (d := some 12) (v := _) rfl rfl (by kernel_rfl) (by kernel_rfl) (by kernel_rfl) (fun _ _ _ h => h) (Or.inl ⟨by rfl, fun wz hz => by (obtain ⟨r0, r1, r2⟩ := R wz hz; go_simp; try with_reducible rfl)⟩) S0 ?_
  try simp only [Act.put, List.setIfInBounds_toArray, List.set_cons_zero, List.set_cons_succ]
  refine takeD (i := 9) (d := some 15) (v := _) rfl rfl (by kernel_rfl) (by kernel_rfl) (by kernel_rfl) (fun _ _ _ h => h) (Or.inl ⟨by rfl, fun wz hz => by (obtain ⟨r0, r1, r2⟩ := R wz hz; go_simp; try with_reducible rfl)⟩) S0 ?_
  try simp only [Act.put, List.setIfInBounds_toArray, List.set_cons_zero, List.set_cons_succ]
  refine takeD (i := 10) (d := some 16) (v := _) rfl rfl (by kernel_rfl) (by kernel_rfl) (by kernel_rfl) (fun _ _ _ h => h) (Or.inl ⟨by rfl, fun wz hz => by (obtain ⟨r0, r1, r2⟩ := R wz hz; go_simp; try with_reducible rfl)⟩) S0 ?_
  try simp only [Act.put, List.setIfInBounds_toArray, List.set_cons_zero, List.set_cons_succ]
  clear R
  refine wpAnyH_ready (rs := [3, 7]) (by kernel_rfl) (by simp) ?_
  refine AllReadyH.cons rfl (fun K hK => ?_) ?_
  · go_wp2_with fail
    refine hK.out _ _ (RB.al S0 _) (fun _ => ?_)
    have S1 : RBK w k a q w1.heap.size _ := RBK.mk S0 k 5
    clear hK K
    refine wpAnyH_narrow (S' := RBK w k a q w1.heap.size) (fun _ h => h.1) _ _ _ _ ?_
    try simp only [Act.put, List.setIfInBounds_toArray, List.set_cons_zero, List.set_cons_succ]
    refine takeD (i := 4) (d := some 10) (v := _) rfl rfl (by kernel_rfl) (by kernel_rfl) (by kernel_rfl) (fun _ _ _ h => h) (Or.inl ⟨by rfl, fun wz hz => by (have hcv := unhide BC _ _ hz.2; go_simp; try with_reducible rfl)⟩) S1 ?_
    try simp only [Act.put, List.setIfInBounds_toArray, List.set_cons_zero, List.set_cons_succ]
    refine wpAnyH_ready (rs := [7]) (by kernel_rfl) (by simp) ?_
    refine AllReadyH.cons rfl (fun K hK => ?_) AllReadyH.nil
    go_simp
    refine (unhide C1 _).mono ?_
    rintro e wc ⟨rfl, hb⟩
    have S1 := RBK.call S1 hb
    go_wp2_with fail
    refine hK.out _ _ S1 (fun S2 => ?_)
    clear hK K S1 hb
    try simp only [Act.put, List.setIfInBounds_toArray, List.set_cons_zero, List.set_cons_succ]
    refine takeD (i := 8) (d := some 14) (v := _) rfl rfl (by kernel_rfl) (by kernel_rfl) (by kernel_rfl) (fun _ _ _ h => h) (Or.inl ⟨by rfl, fun wz hz => by (go_simp; try with_reducible rfl)⟩) S2 ?_
    try simp only [Act.put, List.setIfInBounds_toArray, List.set_cons_zero, List.set_cons_succ]
    refine wpAnyH_ready (rs := [11]) (by kernel_rfl) (by simp) ?_
    refine AllReadyH.cons rfl (fun K hK => ?_) AllReadyH.nil
    go_simp
    refine (unhide C2 _).mono ?_
    rintro e wc ⟨rfl, hb⟩
    have S1 := RBK.call S2 hb
    go_wp2_with fail
    refine hK.out _ _ S1 (fun S3 => ?_)
    clear hK K S1 hb
    try simp only [Act.put, List.setIfInBounds_toArray, List.set_cons_zero, List.set_cons_succ]
    refine takeD (i := 12) (d := some 18) (v := _) rfl rfl (by kernel_rfl) (by kernel_rfl) (by kernel_rfl) (fun _ _ _ h => h) (Or.inl ⟨by rfl, fun wz hz => by (go_simp; try with_reducible rfl)⟩) S3 ?_
    try simp only [Act.put, List.setIfInBounds_toArray, List.set_cons_zero, List.set_cons_succ]
    refine takeD (i := 13) (d := some 2) (v := _) rfl rfl (by kernel_rfl) (by kernel_rfl) (by kernel_rfl) (fun _ _ _ h => h) (Or.inl ⟨by rfl, fun wz hz => by (go_simp; try with_reducible rfl)⟩) S3 ?_
    try simp only [Act.put, List.setIfInBounds_toArray, List.set_cons_zero, List.set_cons_succ]
    refine wpAnyH_done (by kernel_rfl) ?_ _
    have SX := S3
    have HBx := hide SX.1.2
    go_wp2_with fail
    go_wp2
    go_ret
    exact ⟨ret_str (unhide HP), unhide HBx⟩
  refine AllReadyH.cons rfl (fun K hK => ?_) AllReadyH.nil
  go_simp
  refine (unhide C1 _).mono ?_
  rintro e wc ⟨rfl, hb⟩
  have S1 := RB.call S0 hb
  go_wp2_with fail
  refine hK.out _ _ S1 (fun S2 => ?_)
  clear hK K S1 hb
  try simp only [Act.put, List.setIfInBounds_toArray, List.set_cons_zero, List.set_cons_succ]
  refine wpAnyH_ready (rs := [3, 11]) (by kernel_rfl) (by simp) ?_
  refine AllReadyH.cons rfl (fun K hK => ?_) ?_
  · go_wp2_with fail
    refine hK.out _ _ (RB.al S2 _) (fun _ => ?_)
    have S4 : RBK w k a q wc.heap.size _ := RBK.mk S2 k 5
    clear hK K
    refine wpAnyH_narrow (S' := RBK w k a q wc.heap.size) (fun _ h => h.1) _ _ _ _ ?_
    try simp only [Act.put, List.setIfInBounds_toArray, List.set_cons_zero, List.set_cons_succ]
    refine takeD (i := 4) (d := some 10) (v := _) rfl rfl (by kernel_rfl) (by kernel_rfl) (by kernel_rfl) (fun _ _ _ h => h) (Or.inl ⟨by rfl, fun wz hz => by (have hcv := unhide BC _ _ hz.2; go_simp; try with_reducible rfl)⟩) S4 ?_
    try simp only [Act.put, List.setIfInBounds_toArray, List.set_cons_zero, List.set_cons_succ]
    refine takeD (i := 8) (d := some 14) (v := _) rfl rfl (by kernel_rfl) (by kernel_rfl) (by kernel_rfl) (fun _ _ _ h => h) (Or.inl ⟨by rfl, fun wz hz => by (go_simp; try with_reducible rfl)⟩) S4 ?_
    try simp only [Act.put, List.setIfInBounds_toArray, List.set_cons_zero, List.set_cons_succ]
    refine wpAnyH_ready (rs := [11]) (by kernel_rfl) (by simp) ?_
    refine AllReadyH.cons rfl (fun K hK => ?_) AllReadyH.nil
    go_simp
    refine (unhide C2 _).mono ?_
    rintro e wc ⟨rfl, hb⟩
    have S1 := RBK.call S4 hb
    go_wp2_with fail
    refine hK.out _ _ S1 (fun S3 => ?_)
    clear hK K S1 hb
    try simp only [Act.put, List.setIfInBounds_toArray, List.set_cons_zero, List.set_cons_succ]
    refine takeD (i := 12) (d := some 18) (v := _) rfl rfl (by kernel_rfl) (by kernel_rfl) (by kernel_rfl) (fun _ _ _ h => h) (Or.inl ⟨by rfl, fun wz hz => by (go_simp; try with_reducible rfl)⟩) S3 ?_
    try simp only [Act.put, List.setIfInBounds_toArray, List.set_cons_zero, List.set_cons_succ]
    refine takeD (i := 13) (d := some 2) (v := _) rfl rfl (by kernel_rfl) (by kernel_rfl) (by kernel_rfl) (fun _ _ _ h => h) (Or.inl ⟨by rfl, fun wz hz => by (go_simp; try with_reducible rfl)⟩) S3 ?_
    try simp only [Act.put, List.setIfInBounds_toArray, List.set_cons_zero, List.set_cons_succ]
    refine wpAnyH_done (by kernel_rfl) ?_ _
    have SX := S3
    have HBx := hide SX.1.2
    go_wp2_with fail
    go_wp2
    go_ret
    exact ⟨ret_str (unhide HP), unhide HBx⟩
  refine AllReadyH.cons rfl (fun K hK => ?_) AllReadyH.nil
  go_simp
  refine (unhide C2 _).mono ?_
  rintro e wc ⟨rfl, hb⟩
  have S1 := RB.call S2 hb
  go_wp2_with fail
  refine hK.out _ _ S1 (fun S3 => ?_)
  clear hK K S1 hb
  try simp only [Act.put, List.setIfInBounds_toArray, List.set_cons_zero, List.set_cons_succ]
  refine wpAnyH_ready (rs := [3]) (by kernel_rfl) (by simp) ?_
  refine AllReadyH.cons rfl (fun K hK => ?_) AllReadyH.nil
  go_wp2_with fail
  refine hK.out _ _ (RB.al S3 _) (fun _ => ?_)
  have S4 : RBK w k a q wc.heap.size _ := RBK.mk S3 k 5
  clear hK K
  refine wpAnyH_narrow (S' := RBK w k a q wc.heap.size) (fun _ h => h.1) _ _ _ _ ?_
  try simp only [Act.put, List.setIfInBounds_toArray, List.set_cons_zero, List.set_cons_succ]
  refine takeD (i := 4) (d := some 10) (v := _) rfl rfl (by kernel_rfl) (by kernel_rfl) (by kernel_rfl) (fun _ _ _ h => h) (Or.inl ⟨by rfl, fun wz hz => by (have hcv := unhide BC _ _ hz.2; go_simp; try with_reducible rfl)⟩) S4 ?_
  try simp only [Act.put, List.setIfInBounds_toArray, List.set_cons_zero, List.set_cons_succ]
  refine takeD (i := 8) (d := some 14) (v := _) rfl rfl (by kernel_rfl) (by kernel_rfl) (by kernel_rfl) (fun _ _ _ h => h) (Or.inl ⟨by rfl, fun wz hz => by (go_simp; try with_reducible rfl)⟩) S4 ?_
  try simp only [Act.put, List.setIfInBounds_toArray, List.set_cons_zero, List.set_cons_succ]
  refine takeD (i := 12) (d := some 18) (v := _) rfl rfl (by kernel_rfl) (by kernel_rfl) (by kernel_rfl) (fun _ _ _ h => h) (Or.inl ⟨by rfl, fun wz hz => by (go_simp; try with_reducible rfl)⟩) S4 ?_
  try simp only [Act.put, List.setIfInBounds_toArray, List.set_cons_zero, List.set_cons_succ]
  refine takeD (i := 13) (d := some 2) (v := _) rfl rfl (by kernel_rfl) (by kernel_rfl) (by kernel_rfl) (fun _ _ _ h => h) (Or.inl ⟨by rfl, fun wz hz => by (go_simp; try with_reducible rfl)⟩) S4 ?_
  try simp only [Act.put, List.setIfInBounds_toArray, List.set_cons_zero, List.set_cons_succ]
  refine wpAnyH_done (by kernel_rfl) ?_ _
  have SX := S4
  have HBx := hide SX.1.2
  go_wp2_with fail
  go_wp2
  go_ret
  exact ⟨ret_str (unhide HP), unhide HBx⟩

set_option maxRecDepth 100000 in
set_option maxHeartbeats 4000000 in
theorem implPutRec_any (r : Rc) (w : World) (hq : r.queue.length ≤ 1048576) :
    Calls Tryz.prog 8 #[rcv r] w fun e w' => e = .returned (.string (bs (putRec r))) ∧ Below w.heap.size w w' := by
  obtain ⟨k, a, q⟩ := r
  simp only at hq
  have CO := hide (fun wx => implRecOk_any ⟨k, a, q⟩ wx hq)
  have K0 := hide (blk_new w #[.int .i64 k, .int .i64 a, .string (bs q)] 25)
  have HB0 := hide (below_al (Below.refl _ w) (.cells #[.int .i64 k, .int .i64 a, .string (bs q)] 25))
  by_cases ho : recOk ⟨k, a, q⟩ = true
  case neg =>
    rw [Bool.not_eq_true] at ho
    have HP : putRec ⟨k, a, q⟩ = [] := by simp [putRec, ho]
    rw [ho] at CO
    rw [HP]
    clear ho HP
    go_enter Tryz.func8, Tryz.ntmps8
    go_wp2_with fail
    refine (unhide CO _).mono ?_
    rintro e w1 ⟨rfl, hb⟩
    have HB1 := hide (below_on (unhide HB0) hb)
    clear hb
    go_wp2
    go_ret
    exact ⟨rfl, unhide HB1⟩
  obtain ⟨b0, b1, b2, b3, b4⟩ := recOk_bd ho
  simp only at b0 b1 b2 b3 b4
  have HP := hide (show bs [UInt8.ofNat k.toNat] ++ bs (putNum a) ++ bs (putText q) = bs (putRec ⟨k, a, q⟩) by rw [bs_three]; simp [putRec, ho])
  rw [ho] at CO
  clear ho
  obtain ⟨s1, hs1⟩ : ∃ s, bs [UInt8.ofNat k.toNat] = s := ⟨_, rfl⟩
  obtain ⟨s2, hs2⟩ : ∃ s, bs (putNum a) = s := ⟨_, rfl⟩
  obtain ⟨s3, hs3⟩ : ∃ s, bs (putText q) = s := ⟨_, rfl⟩
  have z1 : s1.size = 1 := by rw [← hs1, bs_size]; rfl
  have z2 : s2.size ≤ 5 := by rw [← hs2, bs_size]; exact putNum_le a
  have z3 : s3.size ≤ 2005 := by rw [← hs3, bs_size]; exact putText_le q
  have n1 : ¬ 9223372036854775807 < s1.size + s2.size := by omega
  have n2 : ¬ 9223372036854775807 < s1.size + s2.size + s3.size := by omega
  clear z1 z2 z3
  have BC := hide (fun wx g hb => byte_conv k b0 b1 wx g hb)
  rw [hs1] at BC HP
  rw [hs2, hs3] at HP
  have C1 := hide (fun wx => by have := implPutNum_any a wx; rw [hs2] at this; exact this)
  have C2 := hide (fun wx => by have := implPutText_any (bs q) wx (by rw [bs_size]; exact hq); rw [show bs (putText (bs q).data.toList) = s3 from hs3] at this; exact this)
  have kw : IntKind.u8.wrap k = k := by simp [IntKind.wrap_u8]; omega
  clear hs1 hs2 hs3
  go_enter Tryz.func8, Tryz.ntmps8
  go_wp2_with fail
  refine (unhide CO _).mono ?_
  rintro e w1 ⟨rfl, hb⟩
  have HB1 := hide (below_on (unhide HB0) hb)
  have K1 := hide ((unhide K0).below hb)
  clear hb CO HB0 K0
  go_wp2_with fail
  refine wp_region_held_drew (S := RB w k a q) (by kernel_rfl) (show RB w k a q w1.drew from ⟨unhide K1, (unhide HB1).drew⟩) (fun S0 => ?_)
  have R : ∀ wz, RB w k a q wz → wz.cell? ⟨w.heap.size, 0, none⟩ = some (.int .i64 k) ∧ wz.cell? ⟨w.heap.size, 1, none⟩ = some (.int .i64 a) ∧ wz.cell? ⟨w.heap.size, 2, none⟩ = some (.string (bs q)) := fun wz h => ⟨by simpa using h.1.at 0, by simpa using h.1.at 1, by simpa using h.1.at 2⟩
  refine takeD (i := 0) (d := some 6) (v := _) rfl rfl (by kernel_rfl) (by kernel_rfl) (by kernel_rfl) (fun _ _ _ h => h) (Or.inl ⟨by rfl, fun wz hz => by (obtain ⟨r0, r1, r2⟩ := R wz hz; go_simp; try with_reducible rfl)⟩) S0 ?_
  try simp only [Act.put, List.setIfInBounds_toArray, List.set_cons_zero, List.set_cons_succ]
  refine takeD (i := 1) (d := some 7) (v := _) rfl rfl (by kernel_rfl) (by kernel_rfl) (by kernel_rfl) (fun _ _ _ h => h) (Or.inl ⟨by rfl, fun wz hz => by (obtain ⟨r0, r1, r2⟩ := R wz hz; go_simp; try with_reducible rfl)⟩) S0 ?_
  try simp only [Act.put, List.setIfInBounds_toArray, List.set_cons_zero, List.set_cons_succ]
  refine takeD (i := 2) (d := some 8) (v := _) rfl rfl (by kernel_rfl) (by kernel_rfl) (by kernel_rfl) (fun _ _ _ h => h) (Or.inl ⟨by rfl, fun wz hz => by (obtain ⟨r0, r1, r2⟩ := R wz hz; go_simp; try with_reducible rfl)⟩) S0 ?_
  try simp only [Act.put, List.setIfInBounds_toArray, List.set_cons_zero, List.set_cons_succ]
  refine takeD (i := 5) (d := some 11) (v := _) rfl rfl (by kernel_rfl) (by kernel_rfl) (by kernel_rfl) (fun _ _ _ h => h) (Or.inl ⟨by rfl, fun wz hz => by (obtain ⟨r0, r1, r2⟩ := R wz hz; go_simp; try with_reducible rfl)⟩) S0 ?_
  try simp only [Act.put, List.setIfInBounds_toArray, List.set_cons_zero, List.set_cons_succ]
  refine takeD (i := 6) (d := some 12) (v := _) rfl rfl (by kernel_rfl) (by kernel_rfl) (by kernel_rfl) (fun _ _ _ h => h) (Or.inl ⟨by rfl, fun wz hz => by (obtain ⟨r0, r1, r2⟩ := R wz hz; go_simp; try with_reducible rfl)⟩) S0 ?_
  try simp only [Act.put, List.setIfInBounds_toArray, List.set_cons_zero, List.set_cons_succ]
  refine takeD (i := 9) (d := some 15) (v := _) rfl rfl (by kernel_rfl) (by kernel_rfl) (by kernel_rfl) (fun _ _ _ h => h) (Or.inl ⟨by rfl, fun wz hz => by (obtain ⟨r0, r1, r2⟩ := R wz hz; go_simp; try with_reducible rfl)⟩) S0 ?_
  try simp only [Act.put, List.setIfInBounds_toArray, List.set_cons_zero, List.set_cons_succ]
  refine takeD (i := 10) (d := some 16) (v := _) rfl rfl (by kernel_rfl) (by kernel_rfl) (by kernel_rfl) (fun _ _ _ h => h) (Or.inl ⟨by rfl, fun wz hz => by (obtain ⟨r0, r1, r2⟩ := R wz hz; go_simp; try with_reducible rfl)⟩) S0 ?_
  try simp only [Act.put, List.setIfInBounds_toArray, List.set_cons_zero, List.set_cons_succ]
  clear R
  refine wpAnyH_ready (rs := [3, 7]) (by kernel_rfl) (by simp) ?_
  refine AllReadyH.cons rfl (fun K hK => ?_) ?_
  · go_wp2_with fail
    refine hK.out _ _ (RB.al S0 _) (fun _ => ?_)
    have S1 : RBK w k a q w1.heap.size _ := RBK.mk S0 k 5
    clear hK K
    refine wpAnyH_narrow (S' := RBK w k a q w1.heap.size) (fun _ h => h.1) _ _ _ _ ?_
    try simp only [Act.put, List.setIfInBounds_toArray, List.set_cons_zero, List.set_cons_succ]
    refine takeD (i := 4) (d := some 10) (v := _) rfl rfl (by kernel_rfl) (by kernel_rfl) (by kernel_rfl) (fun _ _ _ h => h) (Or.inl ⟨by rfl, fun wz hz => by (have hcv := unhide BC _ _ hz.2; go_simp; try with_reducible rfl)⟩) S1 ?_
    try simp only [Act.put, List.setIfInBounds_toArray, List.set_cons_zero, List.set_cons_succ]
    refine wpAnyH_ready (rs := [7]) (by kernel_rfl) (by simp) ?_
    refine AllReadyH.cons rfl (fun K hK => ?_) AllReadyH.nil
    go_simp
    refine (unhide C1 _).mono ?_
    rintro e wc ⟨rfl, hb⟩
    have S1 := RBK.call S1 hb
    go_wp2_with fail
    refine hK.out _ _ S1 (fun S2 => ?_)
    clear hK K S1 hb
    try simp only [Act.put, List.setIfInBounds_toArray, List.set_cons_zero, List.set_cons_succ]
    refine takeD (i := 8) (d := some 14) (v := _) rfl rfl (by kernel_rfl) (by kernel_rfl) (by kernel_rfl) (fun _ _ _ h => h) (Or.inl ⟨by rfl, fun wz hz => by (go_simp; try with_reducible rfl)⟩) S2 ?_
    try simp only [Act.put, List.setIfInBounds_toArray, List.set_cons_zero, List.set_cons_succ]
    refine wpAnyH_ready (rs := [11]) (by kernel_rfl) (by simp) ?_
    refine AllReadyH.cons rfl (fun K hK => ?_) AllReadyH.nil
    go_simp
    refine (unhide C2 _).mono ?_
    rintro e wc ⟨rfl, hb⟩
    have S1 := RBK.call S2 hb
    go_wp2_with fail
    refine hK.out _ _ S1 (fun S3 => ?_)
    clear hK K S1 hb
    try simp only [Act.put, List.setIfInBounds_toArray, List.set_cons_zero, List.set_cons_succ]
    refine takeD (i := 12) (d := some 18) (v := _) rfl rfl (by kernel_rfl) (by kernel_rfl) (by kernel_rfl) (fun _ _ _ h => h) (Or.inl ⟨by rfl, fun wz hz => by (go_simp; try with_reducible rfl)⟩) S3 ?_
    try simp only [Act.put, List.setIfInBounds_toArray, List.set_cons_zero, List.set_cons_succ]
    refine takeD (i := 13) (d := some 2) (v := _) rfl rfl (by kernel_rfl) (by kernel_rfl) (by kernel_rfl) (fun _ _ _ h => h) (Or.inl ⟨by rfl, fun wz hz => by (go_simp; try with_reducible rfl)⟩) S3 ?_
    try simp only [Act.put, List.setIfInBounds_toArray, List.set_cons_zero, List.set_cons_succ]
    refine wpAnyH_done (by kernel_rfl) ?_ _
    have SX := S3
    have HBx := hide SX.1.2
    go_wp2_with fail
    go_wp2
    go_ret
    exact ⟨ret_str (unhide HP), unhide HBx⟩
  refine AllReadyH.cons rfl (fun K hK => ?_) AllReadyH.nil
  go_simp
  refine (unhide C1 _).mono ?_
  rintro e wc ⟨rfl, hb⟩
  have S1 := RB.call S0 hb
  go_wp2_with fail
  refine hK.out _ _ S1 (fun S2 => ?_)
  clear hK K S1 hb
  try simp only [Act.put, List.setIfInBounds_toArray, List.set_cons_zero, List.set_cons_succ]
  refine wpAnyH_ready (rs := [3, 11]) (by kernel_rfl) (by simp) ?_
  refine AllReadyH.cons rfl (fun K hK => ?_) ?_
  · go_wp2_with fail
    refine hK.out _ _ (RB.al S2 _) (fun _ => ?_)
    have S4 : RBK w k a q wc.heap.size _ := RBK.mk S2 k 5
    clear hK K
    refine wpAnyH_narrow (S' := RBK w k a q wc.heap.size) (fun _ h => h.1) _ _ _ _ ?_
    try simp only [Act.put, List.setIfInBounds_toArray, List.set_cons_zero, List.set_cons_succ]
    refine takeD (i := 4) (d := some 10) (v := _) rfl rfl (by kernel_rfl) (by kernel_rfl) (by kernel_rfl) (fun _ _ _ h => h) (Or.inl ⟨by rfl, fun wz hz => by (have hcv := unhide BC _ _ hz.2; go_simp; try with_reducible rfl)⟩) S4 ?_
    try simp only [Act.put, List.setIfInBounds_toArray, List.set_cons_zero, List.set_cons_succ]
    refine takeD (i := 8) (d := some 14) (v := _) rfl rfl (by kernel_rfl) (by kernel_rfl) (by kernel_rfl) (fun _ _ _ h => h) (Or.inl ⟨by rfl, fun wz hz => by (go_simp; try with_reducible rfl)⟩) S4 ?_
    try simp only [Act.put, List.setIfInBounds_toArray, List.set_cons_zero, List.set_cons_succ]
    refine wpAnyH_ready (rs := [11]) (by kernel_rfl) (by simp) ?_
    refine AllReadyH.cons rfl (fun K hK => ?_) AllReadyH.nil
    go_simp
    refine (unhide C2 _).mono ?_
    rintro e wc ⟨rfl, hb⟩
    have S1 := RBK.call S4 hb
    go_wp2_with fail
    refine hK.out _ _ S1 (fun S3 => ?_)
    clear hK K S1 hb
    try simp only [Act.put, List.setIfInBounds_toArray, List.set_cons_zero, List.set_cons_succ]
    refine takeD (i := 12) (d := some 18) (v := _) rfl rfl (by kernel_rfl) (by kernel_rfl) (by kernel_rfl) (fun _ _ _ h => h) (Or.inl ⟨by rfl, fun wz hz => by (go_simp; try with_reducible rfl)⟩) S3 ?_
    try simp only [Act.put, List.setIfInBounds_toArray, List.set_cons_zero, List.set_cons_succ]
    refine takeD (i := 13) (d := some 2) (v := _) rfl rfl (by kernel_rfl) (by kernel_rfl) (by kernel_rfl) (fun _ _ _ h => h) (Or.inl ⟨by rfl, fun wz hz => by (go_simp; try with_reducible rfl)⟩) S3 ?_
    try simp only [Act.put, List.setIfInBounds_toArray, List.set_cons_zero, List.set_cons_succ]
    refine wpAnyH_done (by kernel_rfl) ?_ _
    have SX := S3
    have HBx := hide SX.1.2
    go_wp2_with fail
    go_wp2
    go_ret
    exact ⟨ret_str (unhide HP), unhide HBx⟩
  refine AllReadyH.cons rfl (fun K hK => ?_) AllReadyH.nil
  go_simp
  refine (unhide C2 _).mono ?_
  rintro e wc ⟨rfl, hb⟩
  have S1 := RB.call S2 hb
  go_wp2_with fail
  refine hK.out _ _ S1 (fun S3 => ?_)
  clear hK K S1 hb
  try simp only [Act.put, List.setIfInBounds_toArray, List.set_cons_zero, List.set_cons_succ]
  refine wpAnyH_ready (rs := [3]) (by kernel_rfl) (by simp) ?_
  refine AllReadyH.cons rfl (fun K hK => ?_) AllReadyH.nil
  go_wp2_with fail
  refine hK.out _ _ (RB.al S3 _) (fun _ => ?_)
  have S4 : RBK w k a q wc.heap.size _ := RBK.mk S3 k 5
  clear hK K
  refine wpAnyH_narrow (S' := RBK w k a q wc.heap.size) (fun _ h => h.1) _ _ _ _ ?_
  try simp only [Act.put, List.setIfInBounds_toArray, List.set_cons_zero, List.set_cons_succ]
  refine takeD (i := 4) (d := some 10) (v := _) rfl rfl (by kernel_rfl) (by kernel_rfl) (by kernel_rfl) (fun _ _ _ h => h) (Or.inl ⟨by rfl, fun wz hz => by (have hcv := unhide BC _ _ hz.2; go_simp; try with_reducible rfl)⟩) S4 ?_
  try simp only [Act.put, List.setIfInBounds_toArray, List.set_cons_zero, List.set_cons_succ]
  refine takeD (i := 8) (d := some 14) (v := _) rfl rfl (by kernel_rfl) (by kernel_rfl) (by kernel_rfl) (fun _ _ _ h => h) (Or.inl ⟨by rfl, fun wz hz => by (go_simp; try with_reducible rfl)⟩) S4 ?_
  try simp only [Act.put, List.setIfInBounds_toArray, List.set_cons_zero, List.set_cons_succ]
  refine takeD (i := 12) (d := some 18) (v := _) rfl rfl (by kernel_rfl) (by kernel_rfl) (by kernel_rfl) (fun _ _ _ h => h) (Or.inl ⟨by rfl, fun wz hz => by (go_simp; try with_reducible rfl)⟩) S4 ?_
  try simp only [Act.put, List.setIfInBounds_toArray, List.set_cons_zero, List.set_cons_succ]
  refine takeD (i := 13) (d := some 2) (v := _) rfl rfl (by kernel_rfl) (by kernel_rfl) (by kernel_rfl) (fun _ _ _ h => h) (Or.inl ⟨by rfl, fun wz hz => by (go_simp; try with_reducible rfl)⟩) S4 ?_
  try simp only [Act.put, List.setIfInBounds_toArray, List.set_cons_zero, List.set_cons_succ]
  refine wpAnyH_done (by kernel_rfl) ?_ _
  have SX := S4
  have HBx := hide SX.1.2
  go_wp2_with fail
  go_wp2
  go_ret
  exact ⟨ret_str (unhide HP), unhide HBx⟩
end Go.Proofs.YtobpjegfgegkcaaGreatDoor
