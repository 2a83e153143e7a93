/-
  The queue of a line: what the program's readQueue answers; a walk over the dump.
-/
import Derived.Test.YtebaejokhpdbkaaGreatDoorQSet
import Derived.Test.YtebaejokhpdbkaaGreatDoorWordsI
import Derived.Test.YtebaejokhpdbkaaGreatDoorNlCut
import Derived.Test.YtebaejokhpdbkaaGreatDoorReadDec
import Derived.Test.YtebaejokhpdbkaaGreatDoorName
import Derived.Deep.RegionHeld3
namespace Go.Proofs.YtebaejokhpdbkaaGreatDoor
open Go.RowKit
set_option linter.unusedVariables false

theorem bs_nil : bs [] = ⟨#[]⟩ := rfl
theorem SS.drew {w : World} {g cap : Nat} {xs : List ByteArray} (h : SS w g cap xs) : SS w.drew g cap xs := h.below (Below.refl _ _).drew h.lt
theorem SS.set4 {w : World} {g cap k : Nat} {xs : List ByteArray} {x0 x1 x2 x3 : Value} (h : SS w g cap xs) (h1 : g ≠ k) : SS ((((w.setCell ⟨k, 0, none⟩ x0).setCell ⟨k, 1, none⟩ x1).setCell ⟨k, 2, none⟩ x2).setCell ⟨k, 3, none⟩ x3) g cap xs :=
  (((h.same (heap_setCell_other _ ⟨k, 0, none⟩ g _ h1)).same (heap_setCell_other _ ⟨k, 1, none⟩ g _ h1)).same (heap_setCell_other _ ⟨k, 2, none⟩ g _ h1)).same (heap_setCell_other _ ⟨k, 3, none⟩ g _ h1)
theorem SS.read4 (g cap : Nat) (a b c d : ByteArray) : ∀ wx, SS wx g cap [a, b, c, d] → wx.cell? ⟨g, 0, none⟩ = some (.string a) ∧ wx.cell? ⟨g, 1, none⟩ = some (.string b) ∧ wx.cell? ⟨g, 2, none⟩ = some (.string c) ∧ wx.cell? ⟨g, 3, none⟩ = some (.string d) := fun wx h =>
  ⟨h.cell 0 (by simp), h.cell 1 (by simp), h.cell 2 (by simp), h.cell 3 (by simp)⟩

set_option maxRecDepth 100000 in
set_option maxHeartbeats 4000000 in
theorem readQueue_any (l : List UInt8) (w : World) (hs : l.length ≤ 1048576) (hm : MaxLenAt w) :
    Calls Tryz.prog 50 #[.string (bs l)] w fun e w' => e = .returned (.tuple #[qv (lineI l).1, .bool (lineI l).2]) ∧ Below w.heap.size w w' := by
  have HX0 := hide (QBox.new w zq)
  have HB0 := hide (below_al (Below.refl _ w) (qobj zq))
  have CW := hide (implWords_any (bs l) (w.alloc (qobj zq)) (by rw [bs_size]; exact hs) (hm.below (unhide HB0)))
  rw [show (bs l).data.toList = l by simp [bs]] at CW
  have HWL := hide (show (wordsB l).length = (words l).length by rw [wordsB, List.length_map])
  have HN := hide (fun h => (lineS_not (l := l) h).2)
  have H4 := hide (fun h => four (l := l) h)
  have HSZ := hide (words_size (l := l))
  obtain ⟨⟨qr, ok⟩, hr⟩ : ∃ p, lineI l = p := ⟨_, rfl⟩
  rw [hr] at HN ⊢
  have HRR := hide hr
  have hwB : wordsB l = (words l).map bs := rfl
  obtain ⟨ws, hws⟩ : ∃ ws, wordsB l = ws := ⟨_, rfl⟩
  rw [hws] at CW HWL hwB
  have HWB := hide hwB
  clear hr hws hwB hm
  simp only
  go_enter Tryz.func50, Tryz.ntmps50
  go_wp2_with fail
  refine (unhide CW).mono ?_
  rintro e w1 ⟨g, cap, rfl, hss, hg, hb⟩
  have HSS := hide hss
  have HX := hide ((unhide HX0).below hb)
  have HB := hide (below_on (unhide HB0) hb)
  have hgn : w.heap.size < g := by simp at hg; omega
  have k0 := (unhide HX).c0
  have k1 := (unhide HX).c1
  have k2 := (unhide HX).c2
  have k3 := (unhide HX).c3
  have f0 := (unhide HX).f 0
  have f1 := (unhide HX).f 1
  have f2 := (unhide HX).f 2
  have f3 := (unhide HX).f 3
  clear hss hb hg CW HX0 HB0
  by_cases h4 : ws.length = 4
  · obtain ⟨a, b, c, d, hw⟩ := unhide H4 (by rw [← unhide HWL]; exact h4)
    have hwe := unhide HWB
    rw [hw] at hwe
    simp only [List.map_cons, List.map_nil] at hwe
    subst hwe
    have hln := unhide HRR
    rw [lineI, hw] at hln
    simp only at hln
    have z1 : b.length ≤ 1048576 := Nat.le_trans (unhide HSZ b (by rw [hw]; simp)) hs
    have z2 : c.length ≤ 1048576 := Nat.le_trans (unhide HSZ c (by rw [hw]; simp)) hs
    have z3 : d.length ≤ 1048576 := Nat.le_trans (unhide HSZ d (by rw [hw]; simp)) hs
    have CN := hide (fun wx => by have := implNameOk_any (bs b) wx (by rw [bs_size]; exact z1); rw [show (bs b).data.toList = b by simp [bs]] at this; exact this)
    have D1 := hide (fun wx => by have := implReadDec_any (bs c) wx (by rw [bs_size]; exact z2); rw [show (bs c).data.toList = c by simp [bs]] at this; exact this)
    have D2 := hide (fun wx => by have := implReadDec_any (bs d) wx (by rw [bs_size]; exact z3); rw [show (bs d).data.toList = d by simp [bs]] at this; exact this)
    obtain ⟨u, hu⟩ : ∃ u, readDec c = u := ⟨_, rfl⟩
    obtain ⟨v, hv⟩ : ∃ v, readDec d = v := ⟨_, rfl⟩
    rw [hu] at D1
    rw [hv] at D2
    have HLN := hide (show (if b = [45] ∨ nameOk b = true then ((⟨a, if b = [45] then [] else b, u, v⟩ : Q), true) else (zq, false)) = (qr, ok) by rw [← hln, qOf, hu, hv])
    have R := SS.read4 g cap (bs a) (bs b) (bs c) (bs d)
    have d1 := (unhide HSS).cell 1 (by simp)
    simp only [List.getElem_cons_succ, List.getElem_cons_zero] at d1
    have hd1 := bs_dash b
    obtain ⟨n, hnn⟩ : ∃ n, nameOk b = n := ⟨_, rfl⟩
    rw [hnn] at CN HLN
    obtain ⟨s3, e3⟩ : ∃ s, bs c = s := ⟨_, rfl⟩
    obtain ⟨s4, e4⟩ : ∃ s, bs d = s := ⟨_, rfl⟩
    rw [e3] at D1
    rw [e4] at D2
    rw [e3, e4] at HSS R
    clear h4 hu hv hw hln z1 z2 z3 e3 e4 hnn HN H4 HWL HWB HRR HSZ
    by_cases hb : b = [45]
    · have hq : ((⟨a, [], u, v⟩ : Q), true) = (qr, ok) := by rw [← unhide HLN, if_pos (.inl hb), if_pos hb]
      simp only [Prod.mk.injEq] at hq
      obtain ⟨rfl, rfl⟩ := hq
      rw [decide_eq_true hb] at hd1
      clear hb HLN
      go_wp2_with fail
      go_region_held3 (fun wx => SS wx g cap [bs a, bs b, s3, s4])
        (first | (with_reducible assumption) | (with_reducible exact (unhide HSS).drew) | (with_reducible exact SS.drew (SS.set4 (unhide HSS) (by omega))) | (with_reducible exact SS.set4 (by assumption) (by omega)))
        (first
        | (go_at_call_of 69 s3; refine (unhide D1 _).mono ?_; rintro e w' ⟨rfl, rfl⟩)
        | (go_at_call_of 69 s4; refine (unhide D2 _).mono ?_; rintro e w' ⟨rfl, rfl⟩))
      all_goals
        have Z := unhide HX
        have r0 := Z.s0 (.string (bs a))
        have r1 := Z.s1 (.string (bs a)) (.string ⟨#[]⟩)
        have r2 := Z.s2 (.string (bs a)) (.string ⟨#[]⟩) (.int .i64 u)
        have r3 := Z.s3 (.string (bs a)) (.string ⟨#[]⟩) (.int .i64 u) (.int .i64 v)
        go_wp2
        refine bodyPost_ret (v := .tuple #[qv ⟨a, [], u, v⟩, .bool true]) (by simp [results, Tryz.results50, go_sem, r0, r1, r2, r3, bs_nil]) rfl ⟨rfl, ?_⟩
        repeat (first | exact unhide HB | refine Below.drew ?_ | refine below_sc ?_ _ _ _ (by omega))
    · rw [decide_eq_false hb] at hd1
      cases n with
      | true =>
        have hq : ((⟨a, b, u, v⟩ : Q), true) = (qr, ok) := by rw [← unhide HLN, if_pos (.inr rfl), if_neg hb]
        simp only [Prod.mk.injEq] at hq
        obtain ⟨rfl, rfl⟩ := hq
        clear hb HLN
        go_wp2_with (go_at_call 59; refine (unhide CN _).mono ?_; rintro e w' ⟨rfl, rfl⟩)
        go_region_held3 (fun wx => SS wx g cap [bs a, bs b, s3, s4])
          (first | (with_reducible assumption) | (with_reducible exact (unhide HSS).drew) | (with_reducible exact SS.drew (SS.set4 (unhide HSS) (by omega))) | (with_reducible exact SS.set4 (by assumption) (by omega)))
          (first
          | (go_at_call_of 69 s3; refine (unhide D1 _).mono ?_; rintro e w' ⟨rfl, rfl⟩)
          | (go_at_call_of 69 s4; refine (unhide D2 _).mono ?_; rintro e w' ⟨rfl, rfl⟩))
        all_goals
          have Z := unhide HX
          have r0 := Z.s0 (.string (bs a))
          have r1 := Z.s1 (.string (bs a)) (.string (bs b))
          have r2 := Z.s2 (.string (bs a)) (.string (bs b)) (.int .i64 u)
          have r3 := Z.s3 (.string (bs a)) (.string (bs b)) (.int .i64 u) (.int .i64 v)
          go_wp2
          refine bodyPost_ret (v := .tuple #[qv ⟨a, b, u, v⟩, .bool true]) (by simp [results, Tryz.results50, go_sem, r0, r1, r2, r3]) rfl ⟨rfl, ?_⟩
          repeat (first | exact unhide HB | refine Below.drew ?_ | refine below_sc ?_ _ _ _ (by omega))
      | false =>
        have hq : (zq, false) = (qr, ok) := by rw [← unhide HLN, if_neg (by simp [hb])]
        simp only [Prod.mk.injEq] at hq
        obtain ⟨rfl, rfl⟩ := hq
        have r0 := (unhide HX).s0 (.string ⟨#[]⟩)
        have r1 := (unhide HX).s1 (.string ⟨#[]⟩) (.string ⟨#[]⟩)
        have r2 := (unhide HX).s2 (.string ⟨#[]⟩) (.string ⟨#[]⟩) (.int .i64 0)
        have r3 := (unhide HX).s3 (.string ⟨#[]⟩) (.string ⟨#[]⟩) (.int .i64 0) (.int .i64 0)
        clear hb HLN
        go_wp2_with (go_at_call 59; refine (unhide CN _).mono ?_; rintro e w' ⟨rfl, rfl⟩)
        refine bodyPost_ret (v := .tuple #[qv zq, .bool false]) (by simp [results, Tryz.results50, go_sem, zq, bs, r0, r1, r2, r3]) rfl ⟨rfl, ?_⟩
        exact below_put (unhide HB) zq (Nat.le_refl _)
  · have h4f : ((ws.length : Int) == 4) = false := by simp; omega
    have hz := unhide HN (by rw [← unhide HWL]; exact h4)
    simp only [Prod.mk.injEq] at hz
    obtain ⟨rfl, rfl⟩ := hz
    have r0 := (unhide HX).s0 (.string ⟨#[]⟩)
    have r1 := (unhide HX).s1 (.string ⟨#[]⟩) (.string ⟨#[]⟩)
    have r2 := (unhide HX).s2 (.string ⟨#[]⟩) (.string ⟨#[]⟩) (.int .i64 0)
    have r3 := (unhide HX).s3 (.string ⟨#[]⟩) (.string ⟨#[]⟩) (.int .i64 0) (.int .i64 0)
    clear h4
    go_wp2
    refine bodyPost_ret (v := .tuple #[qv zq, .bool false]) (by simp [results, Tryz.results50, go_sem, zq, bs, r0, r1, r2, r3]) rfl ⟨rfl, ?_⟩
    exact below_put (unhide HB) zq (Nat.le_refl _)
end Go.Proofs.YtebaejokhpdbkaaGreatDoor
