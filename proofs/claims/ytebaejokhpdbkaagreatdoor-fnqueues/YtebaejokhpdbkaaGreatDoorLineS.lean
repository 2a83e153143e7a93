/-
  The queue of a line: what the model's l03Line answers; a walk over the dump.
-/
import Derived.Test.YtebaejokhpdbkaaGreatDoorQSet
import Derived.Test.YtebaejokhpdbkaaGreatDoorWordsS
import Derived.Deep.RegionHeld3
import Derived.Deep.RegionWith
namespace Go.Proofs.YtebaejokhpdbkaaGreatDoor
open Go.RowKit
set_option linter.unusedVariables false

set_option maxRecDepth 100000 in
set_option maxHeartbeats 4000000 in
theorem specLine_any (s : ByteArray) (w : World) (hs : s.size ≤ 1048576) :
    Calls Tryz.prog 28 #[.string s] w fun e w' => e = .returned (.tuple #[qv (lineS s.data.toList).1, .bool (lineS s.data.toList).2]) ∧ Below w.heap.size w w' := by
  have HX0 := hide (QBox.new w zq)
  have HB0 := hide (below_al (Below.refl _ w) (qobj zq))
  have CW := hide (specWords_any s (w.alloc (qobj zq)) hs)
  have HWL := hide (show (wordsB s.data.toList).length = (words s.data.toList).length by rw [wordsB, List.length_map])
  have HN := hide (fun h => (lineS_not (l := s.data.toList) h).1)
  have H4 := hide (fun h => four (l := s.data.toList) h)
  have HSZ := hide (words_size (l := s.data.toList))
  obtain ⟨⟨qr, ok⟩, hr⟩ : ∃ p, lineS s.data.toList = p := ⟨_, rfl⟩
  rw [hr] at HN ⊢
  have HRR := hide hr
  have hsl : s.data.toList.length ≤ 1048576 := by rw [len_eq]; exact hs
  have hwB : wordsB s.data.toList = (words s.data.toList).map bs := rfl
  obtain ⟨ws, hws⟩ : ∃ ws, wordsB s.data.toList = ws := ⟨_, rfl⟩
  rw [hws] at CW HWL hwB
  have HWB := hide hwB
  clear hr hws hwB
  simp only
  go_enter Tryz.func28, Tryz.ntmps28
  go_wp2_with fail
  refine (unhide CW).mono ?_
  rintro e w1 ⟨g, cap, rfl, hss, hg, hb⟩
  have HA := hide (show LW w g cap ws w.heap.size zq w1 from ⟨hss, (unhide HX0).below hb, below_on (unhide HB0) hb⟩)
  have hgn : w.heap.size < g := by simp at hg; omega
  clear hss hb hg CW HX0 HB0
  by_cases h4 : ws.length = 4
  · obtain ⟨a, b, c, d, hw⟩ := unhide H4 (by rw [← unhide HWL]; exact h4)
    have hwe := unhide HWB
    rw [hw] at hwe
    simp only [List.map_cons, List.map_nil] at hwe
    subst hwe
    have hln := unhide HRR
    rw [lineS, hw] at hln
    simp only [Prod.mk.injEq] at hln
    obtain ⟨hq1, hq2⟩ := hln
    have z2 : c.length ≤ 1048576 := Nat.le_trans (unhide HSZ c (by rw [hw]; simp)) hsl
    have z3 : d.length ≤ 1048576 := Nat.le_trans (unhide HSZ d (by rw [hw]; simp)) hsl
    have D1 := hide (fun wx => by have := specReadDec_any (bs c) wx (by rw [bs_size]; exact z2); rw [show (bs c).data.toList = c by simp [bs]] at this; exact this)
    have D2 := hide (fun wx => by have := specReadDec_any (bs d) wx (by rw [bs_size]; exact z3); rw [show (bs d).data.toList = d by simp [bs]] at this; exact this)
    obtain ⟨u, hu⟩ : ∃ u, readDec c = u := ⟨_, rfl⟩
    obtain ⟨v, hv⟩ : ∃ v, readDec d = v := ⟨_, rfl⟩
    rw [hu] at D1
    rw [hv] at D2
    have hqr : qr = ⟨a, if b = [45] then [] else b, u, v⟩ := by rw [← hq1, qOf, hu, hv]
    have HQR := hide hqr
    have HOK := hide hq2
    have hg1 : g < w1.heap.size := (unhide HA).1.lt
    have hr1 : w.heap.size < w1.heap.size := (unhide HA).2.1.lt
    have R := LW.read w g cap w.heap.size (bs a) (bs b) (bs c) (bs d) zq
    have hd1 := bs_dash b
    obtain ⟨s3, e3⟩ : ∃ s, bs c = s := ⟨_, rfl⟩
    obtain ⟨s4, e4⟩ : ∃ s, bs d = s := ⟨_, rfl⟩
    rw [e3] at D1
    rw [e4] at D2
    rw [e3, e4] at HA R
    clear h4 hu hv hw hq1 hq2 hqr z2 z3 e3 e4 HN H4 HWL HWB HRR HSZ
    go_wp2_with fail
    go_region_held3 (fun wx => LW w g cap [bs a, bs b, s3, s4] w.heap.size zq wx)
      (first | (with_reducible assumption) | (with_reducible exact (unhide HA).drew) | (with_reducible exact ((unhide HA).al _).drew) | (with_reducible exact LW.drew (LW.set4 ((unhide HA).al _) (by omega) (by omega) (by omega))) | (with_reducible exact LW.set4 (by assumption) (by simp; omega) (by simp; omega) (by simp; omega)))
      (first
      | (go_at_call_of 56 s3; refine (unhide D1 _).mono ?_; rintro e w' ⟨rfl, rfl⟩)
      | (go_at_call_of 56 s4; refine (unhide D2 _).mono ?_; rintro e w' ⟨rfl, rfl⟩))
    all_goals
      have X5 : QBox (w1.alloc (qobj ⟨a, b, u, v⟩)).drew w1.heap.size ⟨a, b, u, v⟩ := QBox.new w1 ⟨a, b, u, v⟩
      have XR : QBox (w1.alloc (qobj ⟨a, b, u, v⟩)).drew w.heap.size zq := ((unhide HA).al (qobj ⟨a, b, u, v⟩)).drew.2.1
      have XS : SS (w1.alloc (qobj ⟨a, b, u, v⟩)).drew g cap [bs a, bs b, s3, s4] := ((unhide HA).al (qobj ⟨a, b, u, v⟩)).drew.1
      have HBW := hide ((unhide HA).al (qobj ⟨a, b, u, v⟩)).drew.2.2
      have hbe := bs_empty b
      have hs2 : (w1.alloc (qobj ⟨a, b, u, v⟩)).drew.heap.size = w1.heap.size + 1 := by simp [World.drew]
      obtain ⟨W2, hW2⟩ : ∃ W2, (w1.alloc (qobj ⟨a, b, u, v⟩)).drew = W2 := ⟨_, rfl⟩
      change Exit.then _ _ Exit.normal _ ((w1.alloc (qobj ⟨a, b, u, v⟩)).drew)
      rw [hW2] at X5 XR XS HBW hs2 ⊢
      clear hW2 D1 D2 R HA
      have HX5 := hide X5
      have HXR := hide XR
      have HXS := hide XS
      have c5 := X5.c1
      have f5 := X5.f 1
      simp only at c5
      clear X5 XR XS
      by_cases hb : b = [45]
      · have hqr : qr = ⟨a, [], u, v⟩ := by rw [unhide HQR, if_pos hb]
        have hok : ok = true := by rw [← unhide HOK, hb]; rfl
        subst hqr hok
        rw [decide_eq_true hb] at hd1
        rw [decide_eq_false (by rw [hb]; simp)] at hbe
        have Y5 := (unhide HX5).setParent []
        have YR := (unhide HXR).other (k := w1.heap.size) 1 (.string (bs [])) (by omega)
        have YS : SS (W2.setCell ⟨w1.heap.size, 1, none⟩ (.string (bs []))) g cap [bs a, bs b, s3, s4] := (unhide HXS).same (heap_setCell_other _ ⟨w1.heap.size, 1, none⟩ g _ (by simp; omega))
        have HBF := hide (below_sc (unhide HBW) w1.heap.size 1 (.string (bs [])) (by omega))
        obtain ⟨W3, hW3⟩ : ∃ W3, W2.setCell ⟨w1.heap.size, 1, none⟩ (.string (bs [])) = W3 := ⟨_, rfl⟩
        have hW3' : W2.setCell ⟨w1.heap.size, 1, none⟩ (.string ⟨#[]⟩) = W3 := hW3
        rw [hW3] at Y5 YR YS HBF
        have HYR := hide YR
        have c0 := Y5.c0
        have c1 := Y5.c1
        have c2 := Y5.c2
        have c3 := Y5.c3
        simp only at c0 c1 c2 c3
        have d1 := YS.cell 1 (by simp)
        simp only [List.getElem_cons_succ, List.getElem_cons_zero] at d1
        have k0 := YR.c0
        have k1 := YR.c1
        have k2 := YR.c2
        have k3 := YR.c3
        have g0 := YR.f 0
        have g1 := YR.f 1
        have g2 := YR.f 2
        have g3 := YR.f 3
        clear Y5 YR YS hW3 hb HQR HOK HX5 HXR HXS HBW
        go_wp2_with fail
        go_region_with fail
        all_goals
          have Z := unhide HYR
          have r0 := Z.s0 (.string (bs a))
          have r1 := Z.s1 (.string (bs a)) (.string (bs []))
          have r2 := Z.s2 (.string (bs a)) (.string (bs [])) (.int .i64 u)
          have r3 := Z.s3 (.string (bs a)) (.string (bs [])) (.int .i64 u) (.int .i64 v)
          go_wp2
          refine bodyPost_ret (v := .tuple #[qv ⟨a, [], u, v⟩, .bool true]) (by simp [results, Tryz.results28, go_sem, r0, r1, r2, r3]) rfl ⟨rfl, ?_⟩
          repeat (first | exact unhide HBF | refine Below.drew ?_ | refine below_sc ?_ _ _ _ (by omega))
      · have hqr : qr = ⟨a, b, u, v⟩ := by rw [unhide HQR, if_neg hb]
        subst hqr
        rw [decide_eq_false hb] at hd1
        by_cases hbn : b = []
        · have hok : ok = false := by rw [← unhide HOK]; simp [hbn]
          subst hok
          rw [decide_eq_true hbn] at hbe
          have HYR := HXR
          have c0 := (unhide HX5).c0
          have c2 := (unhide HX5).c2
          have c3 := (unhide HX5).c3
          simp only at c0 c2 c3
          have d1 := (unhide HXS).cell 1 (by simp)
          simp only [List.getElem_cons_succ, List.getElem_cons_zero] at d1
          have k0 := (unhide HXR).c0
          have k1 := (unhide HXR).c1
          have k2 := (unhide HXR).c2
          have k3 := (unhide HXR).c3
          have g0 := (unhide HXR).f 0
          have g1 := (unhide HXR).f 1
          have g2 := (unhide HXR).f 2
          have g3 := (unhide HXR).f 3
          clear hb HQR HOK HX5 HXS hbn
          go_wp2_with fail
          go_region_with fail
          all_goals
            have Z := unhide HYR
            have r0 := Z.s0 (.string (bs a))
            have r1 := Z.s1 (.string (bs a)) (.string (bs b))
            have r2 := Z.s2 (.string (bs a)) (.string (bs b)) (.int .i64 u)
            have r3 := Z.s3 (.string (bs a)) (.string (bs b)) (.int .i64 u) (.int .i64 v)
            go_wp2
            refine bodyPost_ret (v := .tuple #[qv ⟨a, b, u, v⟩, .bool false]) (by simp [results, Tryz.results28, go_sem, r0, r1, r2, r3]) rfl ⟨rfl, ?_⟩
            repeat (first | exact unhide HBW | refine Below.drew ?_ | refine below_sc ?_ _ _ _ (by omega))
        · have hok : ok = true := by rw [← unhide HOK]; simp [hbn]
          subst hok
          rw [decide_eq_false hbn] at hbe
          have HYR := HXR
          have c0 := (unhide HX5).c0
          have c2 := (unhide HX5).c2
          have c3 := (unhide HX5).c3
          simp only at c0 c2 c3
          have d1 := (unhide HXS).cell 1 (by simp)
          simp only [List.getElem_cons_succ, List.getElem_cons_zero] at d1
          have k0 := (unhide HXR).c0
          have k1 := (unhide HXR).c1
          have k2 := (unhide HXR).c2
          have k3 := (unhide HXR).c3
          have g0 := (unhide HXR).f 0
          have g1 := (unhide HXR).f 1
          have g2 := (unhide HXR).f 2
          have g3 := (unhide HXR).f 3
          clear hb HQR HOK HX5 HXS hbn
          go_wp2_with fail
          go_region_with fail
          all_goals
            have Z := unhide HYR
            have r0 := Z.s0 (.string (bs a))
            have r1 := Z.s1 (.string (bs a)) (.string (bs b))
            have r2 := Z.s2 (.string (bs a)) (.string (bs b)) (.int .i64 u)
            have r3 := Z.s3 (.string (bs a)) (.string (bs b)) (.int .i64 u) (.int .i64 v)
            go_wp2
            refine bodyPost_ret (v := .tuple #[qv ⟨a, b, u, v⟩, .bool true]) (by simp [results, Tryz.results28, go_sem, r0, r1, r2, r3]) rfl ⟨rfl, ?_⟩
            repeat (first | exact unhide HBW | refine Below.drew ?_ | refine below_sc ?_ _ _ _ (by omega))
  · have h4f : ((ws.length : Int) == 4) = false := by simp; omega
    have hz := unhide HN (by rw [← unhide HWL]; exact h4)
    simp only [Prod.mk.injEq] at hz
    obtain ⟨rfl, rfl⟩ := hz
    have X := (unhide HA).2.1
    have k0 := X.c0
    have k1 := X.c1
    have k2 := X.c2
    have k3 := X.c3
    have f0 := X.f 0
    have f1 := X.f 1
    have f2 := X.f 2
    have f3 := X.f 3
    have r0 := X.s0 (.string ⟨#[]⟩)
    have r1 := X.s1 (.string ⟨#[]⟩) (.string ⟨#[]⟩)
    have r2 := X.s2 (.string ⟨#[]⟩) (.string ⟨#[]⟩) (.int .i64 0)
    have r3 := X.s3 (.string ⟨#[]⟩) (.string ⟨#[]⟩) (.int .i64 0) (.int .i64 0)
    clear X h4
    go_wp2
    refine bodyPost_ret (v := .tuple #[qv zq, .bool false]) (by simp [results, Tryz.results28, go_sem, zq, bs, r0, r1, r2, r3]) rfl ⟨rfl, ?_⟩
    exact below_put (unhide HA).2.2 zq (Nat.le_refl _)
end Go.Proofs.YtebaejokhpdbkaaGreatDoor
