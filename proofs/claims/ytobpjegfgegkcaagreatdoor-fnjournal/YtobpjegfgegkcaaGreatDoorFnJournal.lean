/-
  The law FnJournal answers true at every slice of bytes, and leaves it as it was: a record comes back from its bytes, of a journal that is cut off or spoilt at its end the whole ones ahead are left; the library's tables stand as its text lays them (the card ties that); no other condition.
-/
import Derived.Test.YtobpjegfgegkcaaGreatDoorCards
import Derived.Test.YtobpjegfgegkcaaGreatDoorTie
import Derived.Test.YtobpjegfgegkcaaGreatDoorReadN
import Derived.Test.YtobpjegfgegkcaaGreatDoorRecTB
import Derived.Test.YtobpjegfgegkcaaGreatDoorDrawK
import Derived.Test.YtobpjegfgegkcaaGreatDoorJouC
import Derived.Test.YtobpjegfgegkcaaGreatDoorSumsB
import Derived.Test.YtobpjegfgegkcaaGreatDoorAt
import Derived.Test.YtobpjegfgegkcaaGreatDoorPackD
import Derived.WalkKit
import Derived.Deep.CutRange
import Derived.Deep.RegionHeld3
import Derived.Deep.RegionWith
import Derived.Deep.QuietTactic
import Derived.ProofKit
import Derived.OpenShut
import Derived.ShutString
import Derived.ChangeOld
import Derived.Below
import Derived.Deep.DeepHandedRow
import Derived.Lib.LaidTab
import Derived.Lay
import Derived.LaidSub
import Derived.MakeChecks
namespace Go.Proofs.YtobpjegfgegkcaaGreatDoor.fnJournal
open Go.ChangeShapes Go.WideShapes Go.ChangeAt Go.RowKit
open Go.ChangeMaps (open_string shut_string)
set_option linter.unusedVariables false

theorem own : ownKnob Tryz.prog.godebug = none := by kernel_rfl
theorem laidOut : laidOutB Tryz.prog = true := by kernel_rfl

theorem gTabType : (Tryz.prog.globals[0]?).map (·.type) = some 113 := by kernel_rfl
theorem cellsT : Tryz.prog.cellsOf 113 = 20 := by kernel_rfl
theorem cellsE : Tryz.prog.cellsOf 99 = 1 := by kernel_rfl
theorem table {W : World} (h : laidMetH Tryz.prog Rows.fnJournalRow.laid W) : Lib.TabIs Tryz.prog W "internal/strconv.uint64pow10" .u64 Lib.pow10Tab := by
  have h1 : laidMet Tryz.prog Rows.fnJournalRow.laid W := by rw [MakeChecks.laidMetH_plain _ _ _ (by kernel_rfl)] at h; exact h
  have h2 := h1.filter (fun x => x.1 == "internal/strconv.uint64pow10")
  have e : (Rows.fnJournalRow.laid.filter fun x => x.1 == "internal/strconv.uint64pow10") = [("internal/strconv.uint64pow10", Lib.tabData .u64 Lib.pow10Tab)] := by kernel_rfl
  rw [e] at h2
  exact Lib.tabIs_of_head (rest := []) gTab gTabType Tryz.underlying113 Tryz.underlying99 cellsE cellsT h2
set_option maxRecDepth 100000 in
set_option maxHeartbeats 40000000 in
theorem walk (a0 : Option Addr) (len0 cap0 : Nat) (z0 : List Int) (w : World) (w0 : IsRow w a0 len0 cap0 z0) (hL : laidMetH Tryz.prog Rows.fnJournalRow.laid w) (hsh : w.ShapedOpen Tryz.prog) :
    Calls Tryz.prog 3 #[.slice a0 len0 cap0] w fun e w' => e = .returned (.bool true) ∧ Below w.heap.size w w' := by
  have hl := w0.len
  have HT : Hid (Lib.TabIs Tryz.prog w "internal/strconv.uint64pow10" .u64 Lib.pow10Tab) := table hL
  clear hL hsh
  by_cases hbig : len0 ≤ 1048576
  case neg =>
    have hbb : bigB len0 = true := by simp [bigB]; omega
    clear w0
    go_enter Tryz.func3, Tryz.ntmps3
    go_wp2_with fail
    refine (big_any _ _ _ _ hl).mono ?_
    rintro e wb ⟨rfl, rfl⟩
    go_wp2
    go_ret
    exact ⟨rfl, Below.refl _ _⟩
  have HK := hide (code_of w0 hbig)
  have hbb : bigB len0 = false := by simp [bigB]; omega
  clear w0
  go_enter Tryz.func3, Tryz.ntmps3
  go_wp2_with fail
  refine (big_any _ _ _ _ hl).mono ?_
  rintro e wb ⟨rfl, rfl⟩
  go_wp2_with fail
  refine (drawWrite_any _ _ _ _ _ (unhide HK) (Nat.le_refl _)).mono ?_
  rintro e w1 ⟨t, r, rfl, hts, hrd, hb⟩
  have hq12 := hrd.1
  obtain ⟨rk, ra, rq⟩ := r
  simp only at hq12
  have HB1 := hide (below_al hb (.cells #[.int .i64 rk, .int .i64 ra, .string (bs rq)] 25))
  have R1 := hide (blk_new w1 #[.int .i64 rk, .int .i64 ra, .string (bs rq)] 25)
  clear hb hrd
  have CRI := hide (fun wx => implRead_any t wx (by omega))
  have CRS := hide (fun wx => specRead_any t wx (by omega))
  have HFL := hide (readV_flat t (by omega))
  have hrl := readV_len t
  obtain ⟨⟨rl, re⟩, hrv⟩ : ∃ x, readV t = x := ⟨_, rfl⟩
  rw [hrv] at CRI CRS HFL hrl
  simp only at CRI CRS HFL hrl
  clear hrv
  obtain ⟨E, hre, hE, hfl, hok⟩ := unhide HFL
  subst hre
  have HOK := hide hok
  have HPX := hide (show t.data.toList.take E = flat rl from hfl)
  have hfe : (flat rl).length = E := by rw [← hfl, List.length_take, len_eq]; omega
  clear HFL hfl hok
  go_wp2_with fail
  refine (unhide CRI _).mono ?_
  rintro e w2 ⟨v1, rfl, ho, hb⟩
  obtain ⟨ao1, c1, hv1, hr1, _, _⟩ := jown_row ho
  subst hv1
  have HL1 := hide hr1
  have HB2 := hide (below_on (unhide HB1) hb)
  have R2 := hide ((unhide R1).below hb)
  clear ho hr1 hb HB1 R1
  go_wp2_with fail
  refine (unhide CRS _).mono ?_
  rintro e w3 ⟨v2, rfl, ho, hb⟩
  obtain ⟨ao2, c2, hv2, hr2, _, _⟩ := jown_row ho
  subst hv2
  have HL3 := hide ((unhide HL1).below hb)
  have HM3 := hide hr2
  have HB3 := hide (below_on (unhide HB2) hb)
  have R3 := hide ((unhide R2).below hb)
  clear ho hr2 hb HB2 R2 HL1 CRS
  have k0 := (unhide R3).at 0
  have k1 := (unhide R3).at 1
  have k2 := (unhide R3).at 2
  simp at k0 k1 k2
  have CPI := hide (fun (r : Rc) wx (h : r.queue.length ≤ 1048576) => implPutRec_any r wx h)
  have CPS := hide (fun wx => specPutRec_any ⟨rk, ra, rq⟩ wx (by simp only; omega))
  go_wp2_with fail
  refine (unhide CPI ⟨rk, ra, rq⟩ _ (by simp only; omega)).mono ?_
  rintro e w4 ⟨rfl, hb⟩
  have HL4 := hide ((unhide HL3).below hb)
  have HM4 := hide ((unhide HM3).below hb)
  have HB4 := hide (below_on (unhide HB3) hb)
  have R4 := hide ((unhide R3).below hb)
  clear hb HB3 R3 HL3 HM3 k0 k1 k2
  go_wp2_with fail
  refine (drawGetRec_any _ _ _ _ _ ((unhide HK).below (unhide HB4) (Nat.le_refl _)) (unhide HB4).size).mono ?_
  rintro e w5 ⟨u, rfl, hus, hb⟩
  have HL5 := hide ((unhide HL4).below hb)
  have HM5 := hide ((unhide HM4).below hb)
  have HB5 := hide (below_on (unhide HB4) hb)
  have R5 := hide ((unhide R4).below hb)
  clear hb HB4 R4 HL4 HM4
  have CGI := hide (fun (s : ByteArray) wx (h : s.size ≤ 1048576) => implGetRec_any s wx h)
  have CGS := hide (fun wx => specGetRec_any u wx (by omega))
  have HGU := hide (show ∀ x, gotRec u.data.toList = some x → putRec x = u.data.toList ∧ recOk x = true from fun x hx => gotRec_back hx)
  have CG1 := hide (fun wx => unhide CGI u wx (by omega))
  obtain ⟨og, hog⟩ : ∃ o, gotRec u.data.toList = o := ⟨_, rfl⟩
  have CG2 := hide (by have := unhide CG1; rw [hog] at this; exact this)
  rw [hog] at CGS HGU
  clear CG1 hog
  have HV : ∃ (x : Rc) (b : Bool), recAns og = .tuple #[rcv x, .bool b] ∧ (b = true → og = some x) ∧ x.queue.length ≤ 1048576 := by
    cases og with
    | none => exact ⟨⟨0, 0, []⟩, false, rfl, (fun h => by cases h), by simp⟩
    | some x => exact ⟨x, true, rfl, fun _ => rfl, by have := recOk_bd (unhide HGU x rfl).2; omega⟩
  obtain ⟨⟨xk, xa, xq⟩, xb, hxe, hxo, hxq⟩ := HV
  rw [hxe] at CG2 CGS
  have HXB := hide (show xb = true → putRec ⟨xk, xa, xq⟩ = u.data.toList from fun h => (unhide HGU _ (hxo h)).1)
  simp only at hxq
  clear HGU hxe hxo
  go_wp2_with fail
  refine (unhide CG2 _).mono ?_
  rintro e w6 ⟨rfl, hb⟩
  have HL6 := hide (((unhide HL5).below hb).below (below_al (Below.refl _ _) (.cells #[.int .i64 xk, .int .i64 xa, .string (bs xq)] 25)))
  have HM6 := hide (((unhide HM5).below hb).below (below_al (Below.refl _ _) (.cells #[.int .i64 xk, .int .i64 xa, .string (bs xq)] 25)))
  have HB6 := hide (below_al (below_on (unhide HB5) hb) (.cells #[.int .i64 xk, .int .i64 xa, .string (bs xq)] 25))
  have R6 := hide (((unhide R5).below hb).al (.cells #[.int .i64 xk, .int .i64 xa, .string (bs xq)] 25))
  have X6 := hide (blk_new w6 #[.int .i64 xk, .int .i64 xa, .string (bs xq)] 25)
  clear hb HB5 R5 HL5 HM5 CG2
  go_wp2_with fail
  refine (unhide CGS _).mono ?_
  rintro e w7 ⟨rfl, hb⟩
  have HL7 := hide (((unhide HL6).below hb).below (below_al (Below.refl _ _) (.cells #[.int .i64 xk, .int .i64 xa, .string (bs xq)] 25)))
  have HM7 := hide (((unhide HM6).below hb).below (below_al (Below.refl _ _) (.cells #[.int .i64 xk, .int .i64 xa, .string (bs xq)] 25)))
  have HB7 := hide (below_al (below_on (unhide HB6) hb) (.cells #[.int .i64 xk, .int .i64 xa, .string (bs xq)] 25))
  have R7 := hide (((unhide R6).below hb).al (.cells #[.int .i64 xk, .int .i64 xa, .string (bs xq)] 25))
  have X7 := hide (((unhide X6).below hb).al (.cells #[.int .i64 xk, .int .i64 xa, .string (bs xq)] 25))
  have Y7 := hide (blk_new w7 #[.int .i64 xk, .int .i64 xa, .string (bs xq)] 25)
  clear hb HB6 R6 HL6 HM6 X6 CGS
  have CWI := hide (fun (l : List UInt8) wx (h : l.length ≤ 1048576) => implWrite_any l ⟨rk, ra, rq⟩ wx h (by simp only; omega))
  have CWS := hide (fun wx => specWrite_any t.data.toList ⟨rk, ra, rq⟩ wx (by rw [len_eq]; omega) (by simp only; omega))
  have CW1 := hide (fun wx => unhide CWI t.data.toList wx (by rw [len_eq]; omega))
  obtain ⟨⟨wo, wt⟩, hwo⟩ : ∃ o, wrote t.data.toList ⟨rk, ra, rq⟩ = o := ⟨_, rfl⟩
  rw [hwo] at CWS CW1
  rw [bs_back] at CWS CW1
  clear hwo
  have k0 := (unhide R7).at 0
  have k1 := (unhide R7).at 1
  have k2 := (unhide R7).at 2
  simp only [List.getElem?_toArray, List.getElem?_cons_succ, List.getElem?_cons_zero] at k0 k1 k2
  go_wp2_with fail
  refine (unhide CW1 _).mono ?_
  rintro e w8 ⟨rfl, hb⟩
  have HL8 := hide ((unhide HL7).below hb)
  have HM8 := hide ((unhide HM7).below hb)
  have HB8 := hide (below_on (unhide HB7) hb)
  have R8 := hide ((unhide R7).below hb)
  have X8 := hide ((unhide X7).below hb)
  have Y8 := hide ((unhide Y7).below hb)
  clear hb HB7 R7 HL7 HM7 X7 Y7 CW1 k0 k1 k2
  have k0 := (unhide R8).at 0
  have k1 := (unhide R8).at 1
  have k2 := (unhide R8).at 2
  simp at k0 k1 k2
  go_wp2_with fail
  refine (unhide CWS _).mono ?_
  rintro e w9 ⟨rfl, hb⟩
  have HL9 := hide ((unhide HL8).below hb)
  have HM9 := hide ((unhide HM8).below hb)
  have HB9 := hide (below_on (unhide HB8) hb)
  have R9 := hide ((unhide R8).below hb)
  have X9 := hide ((unhide X8).below hb)
  have Y9 := hide ((unhide Y8).below hb)
  clear hb HB8 R8 HL8 HM8 X8 Y8 CWS k0 k1 k2
  have CTI := hide (fun wx (hb : Below w.heap.size w wx) => implRecText_any ⟨rk, ra, rq⟩ wx (by simp only; omega) (tab_on (unhide HT) hb))
  have CTS := hide (fun wx => specRecText_any ⟨rk, ra, rq⟩ wx (by simp only; omega))
  obtain ⟨rt, hrt⟩ : ∃ x, recText ⟨rk, ra, rq⟩ = x := ⟨_, rfl⟩
  rw [hrt] at CTI CTS
  clear hrt
  go_wp2_with fail
  have RD : ∀ wz, BelS w9 wz → wz.cell? ⟨w1.heap.size, 0, none⟩ = some (.int .i64 rk) ∧ wz.cell? ⟨w1.heap.size, 1, none⟩ = some (.int .i64 ra) ∧ wz.cell? ⟨w1.heap.size, 2, none⟩ = some (.string (bs rq)) ∧ wz.cell? ⟨w6.heap.size, 0, none⟩ = some (.int .i64 xk) ∧ wz.cell? ⟨w6.heap.size, 1, none⟩ = some (.int .i64 xa) ∧ wz.cell? ⟨w6.heap.size, 2, none⟩ = some (.string (bs xq)) ∧ wz.cell? ⟨w7.heap.size, 0, none⟩ = some (.int .i64 xk) ∧ wz.cell? ⟨w7.heap.size, 1, none⟩ = some (.int .i64 xa) ∧ wz.cell? ⟨w7.heap.size, 2, none⟩ = some (.string (bs xq)) := fun wz hz => ⟨by simpa using ((unhide R9).below hz).at 0, by simpa using ((unhide R9).below hz).at 1, by simpa using ((unhide R9).below hz).at 2, by simpa using ((unhide X9).below hz).at 0, by simpa using ((unhide X9).below hz).at 1, by simpa using ((unhide X9).below hz).at 2, by simpa using ((unhide Y9).below hz).at 0, by simpa using ((unhide Y9).below hz).at 1, by simpa using ((unhide Y9).below hz).at 2⟩
  have A0 := hide (show BelS w9 w9 from Below.refl _ _)
  go_cut [126] from 75 to 126 (fun v wx => v = .bool false ∧ BelS w9 wx)
  case first =>
    cases xb
    · refine wp_region_held_drew (S := fun wx => BelS w9 wx) (by kernel_rfl) (Below.drew (unhide A0)) (fun S0 => ?_)
      try simp only [List.append_eq, List.cons_append, List.nil_append]
      refine takeD (i := 0) (d := some 75) (v := _) rfl rfl (by kernel_rfl) (by kernel_rfl) (by kernel_rfl) (fun _ _ _ h => h) (Or.inl ⟨by rfl, fun wz hz => by (go_simp; try with_reducible rfl)⟩) S0 ?_
      try simp only [Act.put, List.setIfInBounds_toArray, List.set_cons_zero, List.set_cons_succ]
      refine takeD (i := 1) (d := some 76) (v := _) rfl rfl (by kernel_rfl) (by kernel_rfl) (by kernel_rfl) (fun _ _ _ h => h) (Or.inl ⟨by rfl, fun wz hz => by (go_simp; try with_reducible rfl)⟩) S0 ?_
      try simp only [Act.put, List.setIfInBounds_toArray, List.set_cons_zero, List.set_cons_succ]
      refine takeD (i := 2) (d := some 77) (v := _) rfl rfl (by kernel_rfl) (by kernel_rfl) (by kernel_rfl) (fun _ _ _ h => h) (Or.inl ⟨by rfl, fun wz hz => by (go_simp; try with_reducible rfl)⟩) S0 ?_
      try simp only [Act.put, List.setIfInBounds_toArray, List.set_cons_zero, List.set_cons_succ]
      refine takeD (i := 3) (d := some 78) (v := _) rfl rfl (by kernel_rfl) (by kernel_rfl) (by kernel_rfl) (fun _ _ _ h => h) (Or.inl ⟨by rfl, fun wz hz => by (go_simp; try with_reducible rfl)⟩) S0 ?_
      try simp only [Act.put, List.setIfInBounds_toArray, List.set_cons_zero, List.set_cons_succ]
      refine takeD (i := 4) (d := some 79) (v := _) rfl rfl (by kernel_rfl) (by kernel_rfl) (by kernel_rfl) (fun _ _ _ h => h) (Or.inl ⟨by rfl, fun wz hz => by (go_simp; try with_reducible rfl)⟩) S0 ?_
      try simp only [Act.put, List.setIfInBounds_toArray, List.set_cons_zero, List.set_cons_succ]
      refine takeD (i := 5) (d := some 80) (v := _) rfl rfl (by kernel_rfl) (by kernel_rfl) (by kernel_rfl) (fun _ _ _ h => h) (Or.inl ⟨by rfl, fun wz hz => by (go_simp; try with_reducible rfl)⟩) S0 ?_
      try simp only [Act.put, List.setIfInBounds_toArray, List.set_cons_zero, List.set_cons_succ]
      refine takeD (i := 6) (d := some 81) (v := _) rfl rfl (by kernel_rfl) (by kernel_rfl) (by kernel_rfl) (fun _ _ _ h => h) (Or.inl ⟨by rfl, fun wz hz => by (go_simp; try with_reducible rfl)⟩) S0 ?_
      try simp only [Act.put, List.setIfInBounds_toArray, List.set_cons_zero, List.set_cons_succ]
      refine takeD (i := 7) (d := some 82) (v := _) rfl rfl (by kernel_rfl) (by kernel_rfl) (by kernel_rfl) (fun _ _ _ h => h) (Or.inl ⟨by rfl, fun wz hz => by (go_simp; try with_reducible rfl)⟩) S0 ?_
      try simp only [Act.put, List.setIfInBounds_toArray, List.set_cons_zero, List.set_cons_succ]
      refine takeD (i := 8) (d := some 83) (v := _) rfl rfl (by kernel_rfl) (by kernel_rfl) (by kernel_rfl) (fun _ _ _ h => h) (Or.inl ⟨by rfl, fun wz hz => by (go_simp; try with_reducible rfl)⟩) S0 ?_
      try simp only [Act.put, List.setIfInBounds_toArray, List.set_cons_zero, List.set_cons_succ]
      refine takeD (i := 9) (d := some 84) (v := _) rfl rfl (by kernel_rfl) (by kernel_rfl) (by kernel_rfl) (fun _ _ _ h => h) (Or.inl ⟨by rfl, fun wz hz => by (go_simp; try with_reducible rfl)⟩) S0 ?_
      try simp only [Act.put, List.setIfInBounds_toArray, List.set_cons_zero, List.set_cons_succ]
      refine takeD (i := 10) (d := some 85) (v := _) rfl rfl (by kernel_rfl) (by kernel_rfl) (by kernel_rfl) (fun _ _ _ h => h) (Or.inl ⟨by rfl, fun wz hz => by (go_simp; try with_reducible rfl)⟩) S0 ?_
      try simp only [Act.put, List.setIfInBounds_toArray, List.set_cons_zero, List.set_cons_succ]
      refine takeD (i := 11) (d := some 86) (v := _) rfl rfl (by kernel_rfl) (by kernel_rfl) (by kernel_rfl) (fun _ _ _ h => h) (Or.inl ⟨by rfl, fun wz hz => by (go_simp; try with_reducible rfl)⟩) S0 ?_
      try simp only [Act.put, List.setIfInBounds_toArray, List.set_cons_zero, List.set_cons_succ]
      refine takeD (i := 12) (d := some 87) (v := _) rfl rfl (by kernel_rfl) (by kernel_rfl) (by kernel_rfl) (fun _ _ _ h => h) (Or.inl ⟨by rfl, fun wz hz => by (obtain ⟨d0, d1, d2, d3, d4, d5, d6, d7, d8⟩ := RD wz hz; go_simp; try with_reducible rfl)⟩) S0 ?_
      try simp only [Act.put, List.setIfInBounds_toArray, List.set_cons_zero, List.set_cons_succ]
      refine wpAnyH_ready (rs := [13]) (by kernel_rfl) (by simp) (AllReadyH.cons rfl (fun K hK => ?_) AllReadyH.nil)
      go_simp
      refine (unhide CPS _).mono ?_
      rintro e wc ⟨rfl, hb⟩
      have S1 : BelS w9 wc := below_on S0 hb
      clear hb
      go_wp2_with fail
      refine hK.out _ _ S1 (fun S0 => ?_)
      clear hK K S1
      try simp only [Act.put, List.setIfInBounds_toArray, List.set_cons_zero, List.set_cons_succ]
      refine takeD (i := 14) (d := some 89) (v := _) rfl rfl (by kernel_rfl) (by kernel_rfl) (by kernel_rfl) (fun _ _ _ h => h) (Or.inl ⟨by rfl, fun wz hz => by (go_simp; try with_reducible rfl)⟩) S0 ?_
      try simp only [Act.put, List.setIfInBounds_toArray, List.set_cons_zero, List.set_cons_succ]
      refine takeD (i := 15) (d := some 90) (v := _) rfl rfl (by kernel_rfl) (by kernel_rfl) (by kernel_rfl) (fun _ _ _ h => h) (Or.inl ⟨by rfl, fun wz hz => by (go_simp; try with_reducible rfl)⟩) S0 ?_
      try simp only [Act.put, List.setIfInBounds_toArray, List.set_cons_zero, List.set_cons_succ]
      refine takeD (i := 16) (d := some 91) (v := _) rfl rfl (by kernel_rfl) (by kernel_rfl) (by kernel_rfl) (fun _ _ _ h => h) (Or.inl ⟨by rfl, fun wz hz => by (go_simp; try with_reducible rfl)⟩) S0 ?_
      try simp only [Act.put, List.setIfInBounds_toArray, List.set_cons_zero, List.set_cons_succ]
      refine takeD (i := 17) (d := some 92) (v := _) rfl rfl (by kernel_rfl) (by kernel_rfl) (by kernel_rfl) (fun _ _ _ h => h) (Or.inl ⟨by rfl, fun wz hz => by (obtain ⟨d0, d1, d2, d3, d4, d5, d6, d7, d8⟩ := RD wz hz; go_simp; try with_reducible rfl)⟩) S0 ?_
      try simp only [Act.put, List.setIfInBounds_toArray, List.set_cons_zero, List.set_cons_succ]
      refine takeD (i := 18) (d := some 93) (v := _) rfl rfl (by kernel_rfl) (by kernel_rfl) (by kernel_rfl) (fun _ _ _ h => h) (Or.inl ⟨by rfl, fun wz hz => by (obtain ⟨d0, d1, d2, d3, d4, d5, d6, d7, d8⟩ := RD wz hz; go_simp; try with_reducible rfl)⟩) S0 ?_
      try simp only [Act.put, List.setIfInBounds_toArray, List.set_cons_zero, List.set_cons_succ]
      refine takeD (i := 19) (d := some 94) (v := _) rfl rfl (by kernel_rfl) (by kernel_rfl) (by kernel_rfl) (fun _ _ _ h => h) (Or.inl ⟨by rfl, fun wz hz => by (go_simp; try with_reducible rfl)⟩) S0 ?_
      try simp only [Act.put, List.setIfInBounds_toArray, List.set_cons_zero, List.set_cons_succ]
      refine takeD (i := 20) (d := some 95) (v := _) rfl rfl (by kernel_rfl) (by kernel_rfl) (by kernel_rfl) (fun _ _ _ h => h) (Or.inl ⟨by rfl, fun wz hz => by (go_simp; try with_reducible rfl)⟩) S0 ?_
      try simp only [Act.put, List.setIfInBounds_toArray, List.set_cons_zero, List.set_cons_succ]
      refine takeD (i := 21) (d := some 96) (v := _) rfl rfl (by kernel_rfl) (by kernel_rfl) (by kernel_rfl) (fun _ _ _ h => h) (Or.inl ⟨by rfl, fun wz hz => by (go_simp; try with_reducible rfl)⟩) S0 ?_
      try simp only [Act.put, List.setIfInBounds_toArray, List.set_cons_zero, List.set_cons_succ]
      refine takeD (i := 22) (d := some 97) (v := _) rfl rfl (by kernel_rfl) (by kernel_rfl) (by kernel_rfl) (fun _ _ _ h => h) (Or.inl ⟨by rfl, fun wz hz => by (go_simp; try with_reducible rfl)⟩) S0 ?_
      try simp only [Act.put, List.setIfInBounds_toArray, List.set_cons_zero, List.set_cons_succ]
      refine takeD (i := 23) (d := some 98) (v := _) rfl rfl (by kernel_rfl) (by kernel_rfl) (by kernel_rfl) (fun _ _ _ h => h) (Or.inl ⟨by rfl, fun wz hz => by (go_simp; try with_reducible rfl)⟩) S0 ?_
      try simp only [Act.put, List.setIfInBounds_toArray, List.set_cons_zero, List.set_cons_succ]
      refine takeD (i := 24) (d := some 99) (v := _) rfl rfl (by kernel_rfl) (by kernel_rfl) (by kernel_rfl) (fun _ _ _ h => h) (Or.inl ⟨by rfl, fun wz hz => by (go_simp; try with_reducible rfl)⟩) S0 ?_
      try simp only [Act.put, List.setIfInBounds_toArray, List.set_cons_zero, List.set_cons_succ]
      refine takeD (i := 25) (d := some 100) (v := _) rfl rfl (by kernel_rfl) (by kernel_rfl) (by kernel_rfl) (fun _ _ _ h => h) (Or.inl ⟨by rfl, fun wz hz => by (go_simp; try with_reducible rfl)⟩) S0 ?_
      try simp only [Act.put, List.setIfInBounds_toArray, List.set_cons_zero, List.set_cons_succ]
      refine takeD (i := 26) (d := some 101) (v := _) rfl rfl (by kernel_rfl) (by kernel_rfl) (by kernel_rfl) (fun _ _ _ h => h) (Or.inl ⟨by rfl, fun wz hz => by (go_simp; try with_reducible rfl)⟩) S0 ?_
      try simp only [Act.put, List.setIfInBounds_toArray, List.set_cons_zero, List.set_cons_succ]
      refine takeD (i := 27) (d := some 102) (v := _) rfl rfl (by kernel_rfl) (by kernel_rfl) (by kernel_rfl) (fun _ _ _ h => h) (Or.inl ⟨by rfl, fun wz hz => by (go_simp; try with_reducible rfl)⟩) S0 ?_
      try simp only [Act.put, List.setIfInBounds_toArray, List.set_cons_zero, List.set_cons_succ]
      refine takeD (i := 28) (d := some 103) (v := _) rfl rfl (by kernel_rfl) (by kernel_rfl) (by kernel_rfl) (fun _ _ _ h => h) (Or.inl ⟨by rfl, fun wz hz => by (go_simp; try with_reducible rfl)⟩) S0 ?_
      try simp only [Act.put, List.setIfInBounds_toArray, List.set_cons_zero, List.set_cons_succ]
      refine takeD (i := 29) (d := some 104) (v := undef) rfl rfl (by kernel_rfl) (by kernel_rfl) (by kernel_rfl) (fun _ _ _ h => h) (Or.inr ⟨by rfl, rfl⟩) S0 ?_
      try simp only [Act.put, List.setIfInBounds_toArray, List.set_cons_zero, List.set_cons_succ]
      refine takeD (i := 30) (d := some 105) (v := undef) rfl rfl (by kernel_rfl) (by kernel_rfl) (by kernel_rfl) (fun _ _ _ h => h) (Or.inr ⟨by rfl, rfl⟩) S0 ?_
      try simp only [Act.put, List.setIfInBounds_toArray, List.set_cons_zero, List.set_cons_succ]
      refine takeD (i := 31) (d := some 106) (v := undef) rfl rfl (by kernel_rfl) (by kernel_rfl) (by kernel_rfl) (fun _ _ _ h => h) (Or.inr ⟨by rfl, rfl⟩) S0 ?_
      try simp only [Act.put, List.setIfInBounds_toArray, List.set_cons_zero, List.set_cons_succ]
      refine takeD (i := 32) (d := some 107) (v := undef) rfl rfl (by kernel_rfl) (by kernel_rfl) (by kernel_rfl) (fun _ _ _ h => h) (Or.inr ⟨by rfl, rfl⟩) S0 ?_
      try simp only [Act.put, List.setIfInBounds_toArray, List.set_cons_zero, List.set_cons_succ]
      refine takeD (i := 33) (d := some 108) (v := _) rfl rfl (by kernel_rfl) (by kernel_rfl) (by kernel_rfl) (fun _ _ _ h => h) (Or.inl ⟨by rfl, fun wz hz => by (go_simp; try with_reducible rfl)⟩) S0 ?_
      try simp only [Act.put, List.setIfInBounds_toArray, List.set_cons_zero, List.set_cons_succ]
      refine takeD (i := 34) (d := some 109) (v := _) rfl rfl (by kernel_rfl) (by kernel_rfl) (by kernel_rfl) (fun _ _ _ h => h) (Or.inl ⟨by rfl, fun wz hz => by (go_simp; try with_reducible rfl)⟩) S0 ?_
      try simp only [Act.put, List.setIfInBounds_toArray, List.set_cons_zero, List.set_cons_succ]
      refine takeD (i := 35) (d := some 110) (v := _) rfl rfl (by kernel_rfl) (by kernel_rfl) (by kernel_rfl) (fun _ _ _ h => h) (Or.inl ⟨by rfl, fun wz hz => by (go_simp; try with_reducible rfl)⟩) S0 ?_
      try simp only [Act.put, List.setIfInBounds_toArray, List.set_cons_zero, List.set_cons_succ]
      refine takeD (i := 36) (d := some 111) (v := _) rfl rfl (by kernel_rfl) (by kernel_rfl) (by kernel_rfl) (fun _ _ _ h => h) (Or.inl ⟨by rfl, fun wz hz => by (go_simp; try with_reducible rfl)⟩) S0 ?_
      try simp only [Act.put, List.setIfInBounds_toArray, List.set_cons_zero, List.set_cons_succ]
      refine takeD (i := 37) (d := some 112) (v := _) rfl rfl (by kernel_rfl) (by kernel_rfl) (by kernel_rfl) (fun _ _ _ h => h) (Or.inl ⟨by rfl, fun wz hz => by (go_simp; try with_reducible rfl)⟩) S0 ?_
      try simp only [Act.put, List.setIfInBounds_toArray, List.set_cons_zero, List.set_cons_succ]
      refine takeD (i := 38) (d := some 113) (v := _) rfl rfl (by kernel_rfl) (by kernel_rfl) (by kernel_rfl) (fun _ _ _ h => h) (Or.inl ⟨by rfl, fun wz hz => by (go_simp; try with_reducible rfl)⟩) S0 ?_
      try simp only [Act.put, List.setIfInBounds_toArray, List.set_cons_zero, List.set_cons_succ]
      refine takeD (i := 39) (d := some 114) (v := _) rfl rfl (by kernel_rfl) (by kernel_rfl) (by kernel_rfl) (fun _ _ _ h => h) (Or.inl ⟨by rfl, fun wz hz => by (go_simp; try with_reducible rfl)⟩) S0 ?_
      try simp only [Act.put, List.setIfInBounds_toArray, List.set_cons_zero, List.set_cons_succ]
      refine takeD (i := 40) (d := some 115) (v := _) rfl rfl (by kernel_rfl) (by kernel_rfl) (by kernel_rfl) (fun _ _ _ h => h) (Or.inl ⟨by rfl, fun wz hz => by (go_simp; try with_reducible rfl)⟩) S0 ?_
      try simp only [Act.put, List.setIfInBounds_toArray, List.set_cons_zero, List.set_cons_succ]
      refine takeD (i := 41) (d := some 116) (v := _) rfl rfl (by kernel_rfl) (by kernel_rfl) (by kernel_rfl) (fun _ _ _ h => h) (Or.inl ⟨by rfl, fun wz hz => by (go_simp; try with_reducible rfl)⟩) S0 ?_
      try simp only [Act.put, List.setIfInBounds_toArray, List.set_cons_zero, List.set_cons_succ]
      refine takeD (i := 42) (d := some 117) (v := _) rfl rfl (by kernel_rfl) (by kernel_rfl) (by kernel_rfl) (fun _ _ _ h => h) (Or.inl ⟨by rfl, fun wz hz => by (go_simp; try with_reducible rfl)⟩) S0 ?_
      try simp only [Act.put, List.setIfInBounds_toArray, List.set_cons_zero, List.set_cons_succ]
      refine takeD (i := 43) (d := some 118) (v := _) rfl rfl (by kernel_rfl) (by kernel_rfl) (by kernel_rfl) (fun _ _ _ h => h) (Or.inl ⟨by rfl, fun wz hz => by (go_simp; try with_reducible rfl)⟩) S0 ?_
      try simp only [Act.put, List.setIfInBounds_toArray, List.set_cons_zero, List.set_cons_succ]
      refine takeD (i := 44) (d := some 119) (v := _) rfl rfl (by kernel_rfl) (by kernel_rfl) (by kernel_rfl) (fun _ _ _ h => h) (Or.inl ⟨by rfl, fun wz hz => by (go_simp; try with_reducible rfl)⟩) S0 ?_
      try simp only [Act.put, List.setIfInBounds_toArray, List.set_cons_zero, List.set_cons_succ]
      refine takeD (i := 45) (d := some 120) (v := _) rfl rfl (by kernel_rfl) (by kernel_rfl) (by kernel_rfl) (fun _ _ _ h => h) (Or.inl ⟨by rfl, fun wz hz => by (go_simp; try with_reducible rfl)⟩) S0 ?_
      try simp only [Act.put, List.setIfInBounds_toArray, List.set_cons_zero, List.set_cons_succ]
      refine takeD (i := 46) (d := some 121) (v := _) rfl rfl (by kernel_rfl) (by kernel_rfl) (by kernel_rfl) (fun _ _ _ h => h) (Or.inl ⟨by rfl, fun wz hz => by (obtain ⟨d0, d1, d2, d3, d4, d5, d6, d7, d8⟩ := RD wz hz; go_simp; try with_reducible rfl)⟩) S0 ?_
      try simp only [Act.put, List.setIfInBounds_toArray, List.set_cons_zero, List.set_cons_succ]
      refine takeD (i := 48) (d := some 123) (v := _) rfl rfl (by kernel_rfl) (by kernel_rfl) (by kernel_rfl) (fun _ _ _ h => h) (Or.inl ⟨by rfl, fun wz hz => by (obtain ⟨d0, d1, d2, d3, d4, d5, d6, d7, d8⟩ := RD wz hz; go_simp; try with_reducible rfl)⟩) S0 ?_
      try simp only [Act.put, List.setIfInBounds_toArray, List.set_cons_zero, List.set_cons_succ]
      refine wpAnyH_ready (rs := [47]) (by kernel_rfl) (by simp) (AllReadyH.cons rfl (fun K hK => ?_) AllReadyH.nil)
      go_simp
      refine (unhide CTI _ (below_on (unhide HB9) S0)).mono ?_
      rintro e wc ⟨rfl, hb⟩
      have S1 : BelS w9 wc := below_on S0 hb
      clear hb
      go_wp2_with fail
      refine hK.out _ _ S1 (fun S0 => ?_)
      clear hK K S1
      try simp only [Act.put, List.setIfInBounds_toArray, List.set_cons_zero, List.set_cons_succ]
      refine wpAnyH_ready (rs := [49]) (by kernel_rfl) (by simp) (AllReadyH.cons rfl (fun K hK => ?_) AllReadyH.nil)
      go_simp
      refine (unhide CTS _).mono ?_
      rintro e wc ⟨rfl, hb⟩
      have S1 : BelS w9 wc := below_on S0 hb
      clear hb
      go_wp2_with fail
      refine hK.out _ _ S1 (fun S0 => ?_)
      clear hK K S1
      try simp only [Act.put, List.setIfInBounds_toArray, List.set_cons_zero, List.set_cons_succ]
      refine takeD (i := 50) (d := some 125) (v := _) rfl rfl (by kernel_rfl) (by kernel_rfl) (by kernel_rfl) (fun _ _ _ h => h) (Or.inl ⟨by rfl, fun wz hz => by (go_simp; try with_reducible rfl)⟩) S0 ?_
      try simp only [Act.put, List.setIfInBounds_toArray, List.set_cons_zero, List.set_cons_succ]
      refine takeD (i := 51) (d := some 126) (v := _) rfl rfl (by kernel_rfl) (by kernel_rfl) (by kernel_rfl) (fun _ _ _ h => h) (Or.inl ⟨by rfl, fun wz hz => by (go_simp; try with_reducible rfl)⟩) S0 ?_
      try simp only [Act.put, List.setIfInBounds_toArray, List.set_cons_zero, List.set_cons_succ]
      refine wpAnyH_done (by kernel_rfl) ?_ _
      go_wp2_with fail
      go_meet
      exact ⟨rfl, S0⟩
    · have hxu : ((bs (putRec ⟨xk, xa, xq⟩)).toList == u.toList) = true := str_same (unhide HXB rfl)
      refine wp_region_held_drew (S := fun wx => BelS w9 wx) (by kernel_rfl) (Below.drew (unhide A0)) (fun S0 => ?_)
      try simp only [List.append_eq, List.cons_append, List.nil_append]
      refine takeD (i := 0) (d := some 75) (v := _) rfl rfl (by kernel_rfl) (by kernel_rfl) (by kernel_rfl) (fun _ _ _ h => h) (Or.inl ⟨by rfl, fun wz hz => by (go_simp; try with_reducible rfl)⟩) S0 ?_
      try simp only [Act.put, List.setIfInBounds_toArray, List.set_cons_zero, List.set_cons_succ]
      refine takeD (i := 1) (d := some 76) (v := _) rfl rfl (by kernel_rfl) (by kernel_rfl) (by kernel_rfl) (fun _ _ _ h => h) (Or.inl ⟨by rfl, fun wz hz => by (go_simp; try with_reducible rfl)⟩) S0 ?_
      try simp only [Act.put, List.setIfInBounds_toArray, List.set_cons_zero, List.set_cons_succ]
      refine takeD (i := 2) (d := some 77) (v := _) rfl rfl (by kernel_rfl) (by kernel_rfl) (by kernel_rfl) (fun _ _ _ h => h) (Or.inl ⟨by rfl, fun wz hz => by (go_simp; try with_reducible rfl)⟩) S0 ?_
      try simp only [Act.put, List.setIfInBounds_toArray, List.set_cons_zero, List.set_cons_succ]
      refine takeD (i := 3) (d := some 78) (v := _) rfl rfl (by kernel_rfl) (by kernel_rfl) (by kernel_rfl) (fun _ _ _ h => h) (Or.inl ⟨by rfl, fun wz hz => by (go_simp; try with_reducible rfl)⟩) S0 ?_
      try simp only [Act.put, List.setIfInBounds_toArray, List.set_cons_zero, List.set_cons_succ]
      refine takeD (i := 4) (d := some 79) (v := _) rfl rfl (by kernel_rfl) (by kernel_rfl) (by kernel_rfl) (fun _ _ _ h => h) (Or.inl ⟨by rfl, fun wz hz => by (go_simp; try with_reducible rfl)⟩) S0 ?_
      try simp only [Act.put, List.setIfInBounds_toArray, List.set_cons_zero, List.set_cons_succ]
      refine takeD (i := 5) (d := some 80) (v := _) rfl rfl (by kernel_rfl) (by kernel_rfl) (by kernel_rfl) (fun _ _ _ h => h) (Or.inl ⟨by rfl, fun wz hz => by (go_simp; try with_reducible rfl)⟩) S0 ?_
      try simp only [Act.put, List.setIfInBounds_toArray, List.set_cons_zero, List.set_cons_succ]
      refine takeD (i := 6) (d := some 81) (v := _) rfl rfl (by kernel_rfl) (by kernel_rfl) (by kernel_rfl) (fun _ _ _ h => h) (Or.inl ⟨by rfl, fun wz hz => by (go_simp; try with_reducible rfl)⟩) S0 ?_
      try simp only [Act.put, List.setIfInBounds_toArray, List.set_cons_zero, List.set_cons_succ]
      refine takeD (i := 7) (d := some 82) (v := _) rfl rfl (by kernel_rfl) (by kernel_rfl) (by kernel_rfl) (fun _ _ _ h => h) (Or.inl ⟨by rfl, fun wz hz => by (go_simp; try with_reducible rfl)⟩) S0 ?_
      try simp only [Act.put, List.setIfInBounds_toArray, List.set_cons_zero, List.set_cons_succ]
      refine takeD (i := 8) (d := some 83) (v := _) rfl rfl (by kernel_rfl) (by kernel_rfl) (by kernel_rfl) (fun _ _ _ h => h) (Or.inl ⟨by rfl, fun wz hz => by (go_simp; try with_reducible rfl)⟩) S0 ?_
      try simp only [Act.put, List.setIfInBounds_toArray, List.set_cons_zero, List.set_cons_succ]
      refine takeD (i := 9) (d := some 84) (v := _) rfl rfl (by kernel_rfl) (by kernel_rfl) (by kernel_rfl) (fun _ _ _ h => h) (Or.inl ⟨by rfl, fun wz hz => by (go_simp; try with_reducible rfl)⟩) S0 ?_
      try simp only [Act.put, List.setIfInBounds_toArray, List.set_cons_zero, List.set_cons_succ]
      refine takeD (i := 10) (d := some 85) (v := _) rfl rfl (by kernel_rfl) (by kernel_rfl) (by kernel_rfl) (fun _ _ _ h => h) (Or.inl ⟨by rfl, fun wz hz => by (go_simp; try with_reducible rfl)⟩) S0 ?_
      try simp only [Act.put, List.setIfInBounds_toArray, List.set_cons_zero, List.set_cons_succ]
      refine takeD (i := 11) (d := some 86) (v := _) rfl rfl (by kernel_rfl) (by kernel_rfl) (by kernel_rfl) (fun _ _ _ h => h) (Or.inl ⟨by rfl, fun wz hz => by (go_simp; try with_reducible rfl)⟩) S0 ?_
      try simp only [Act.put, List.setIfInBounds_toArray, List.set_cons_zero, List.set_cons_succ]
      refine takeD (i := 12) (d := some 87) (v := _) rfl rfl (by kernel_rfl) (by kernel_rfl) (by kernel_rfl) (fun _ _ _ h => h) (Or.inl ⟨by rfl, fun wz hz => by (obtain ⟨d0, d1, d2, d3, d4, d5, d6, d7, d8⟩ := RD wz hz; go_simp; try with_reducible rfl)⟩) S0 ?_
      try simp only [Act.put, List.setIfInBounds_toArray, List.set_cons_zero, List.set_cons_succ]
      refine wpAnyH_ready (rs := [13]) (by kernel_rfl) (by simp) (AllReadyH.cons rfl (fun K hK => ?_) AllReadyH.nil)
      go_simp
      refine (unhide CPS _).mono ?_
      rintro e wc ⟨rfl, hb⟩
      have S1 : BelS w9 wc := below_on S0 hb
      clear hb
      go_wp2_with fail
      refine hK.out _ _ S1 (fun S0 => ?_)
      clear hK K S1
      try simp only [Act.put, List.setIfInBounds_toArray, List.set_cons_zero, List.set_cons_succ]
      refine takeD (i := 14) (d := some 89) (v := _) rfl rfl (by kernel_rfl) (by kernel_rfl) (by kernel_rfl) (fun _ _ _ h => h) (Or.inl ⟨by rfl, fun wz hz => by (go_simp; try with_reducible rfl)⟩) S0 ?_
      try simp only [Act.put, List.setIfInBounds_toArray, List.set_cons_zero, List.set_cons_succ]
      refine takeD (i := 15) (d := some 90) (v := _) rfl rfl (by kernel_rfl) (by kernel_rfl) (by kernel_rfl) (fun _ _ _ h => h) (Or.inl ⟨by rfl, fun wz hz => by (go_simp; try with_reducible rfl)⟩) S0 ?_
      try simp only [Act.put, List.setIfInBounds_toArray, List.set_cons_zero, List.set_cons_succ]
      refine takeD (i := 16) (d := some 91) (v := _) rfl rfl (by kernel_rfl) (by kernel_rfl) (by kernel_rfl) (fun _ _ _ h => h) (Or.inl ⟨by rfl, fun wz hz => by (go_simp; try with_reducible rfl)⟩) S0 ?_
      try simp only [Act.put, List.setIfInBounds_toArray, List.set_cons_zero, List.set_cons_succ]
      refine takeD (i := 17) (d := some 92) (v := _) rfl rfl (by kernel_rfl) (by kernel_rfl) (by kernel_rfl) (fun _ _ _ h => h) (Or.inl ⟨by rfl, fun wz hz => by (obtain ⟨d0, d1, d2, d3, d4, d5, d6, d7, d8⟩ := RD wz hz; go_simp; try with_reducible rfl)⟩) S0 ?_
      try simp only [Act.put, List.setIfInBounds_toArray, List.set_cons_zero, List.set_cons_succ]
      refine takeD (i := 18) (d := some 93) (v := _) rfl rfl (by kernel_rfl) (by kernel_rfl) (by kernel_rfl) (fun _ _ _ h => h) (Or.inl ⟨by rfl, fun wz hz => by (obtain ⟨d0, d1, d2, d3, d4, d5, d6, d7, d8⟩ := RD wz hz; go_simp; try with_reducible rfl)⟩) S0 ?_
      try simp only [Act.put, List.setIfInBounds_toArray, List.set_cons_zero, List.set_cons_succ]
      refine takeD (i := 19) (d := some 94) (v := _) rfl rfl (by kernel_rfl) (by kernel_rfl) (by kernel_rfl) (fun _ _ _ h => h) (Or.inl ⟨by rfl, fun wz hz => by (go_simp; try with_reducible rfl)⟩) S0 ?_
      try simp only [Act.put, List.setIfInBounds_toArray, List.set_cons_zero, List.set_cons_succ]
      refine takeD (i := 20) (d := some 95) (v := _) rfl rfl (by kernel_rfl) (by kernel_rfl) (by kernel_rfl) (fun _ _ _ h => h) (Or.inl ⟨by rfl, fun wz hz => by (go_simp; try with_reducible rfl)⟩) S0 ?_
      try simp only [Act.put, List.setIfInBounds_toArray, List.set_cons_zero, List.set_cons_succ]
      refine takeD (i := 21) (d := some 96) (v := _) rfl rfl (by kernel_rfl) (by kernel_rfl) (by kernel_rfl) (fun _ _ _ h => h) (Or.inl ⟨by rfl, fun wz hz => by (go_simp; try with_reducible rfl)⟩) S0 ?_
      try simp only [Act.put, List.setIfInBounds_toArray, List.set_cons_zero, List.set_cons_succ]
      refine takeD (i := 22) (d := some 97) (v := _) rfl rfl (by kernel_rfl) (by kernel_rfl) (by kernel_rfl) (fun _ _ _ h => h) (Or.inl ⟨by rfl, fun wz hz => by (go_simp; try with_reducible rfl)⟩) S0 ?_
      try simp only [Act.put, List.setIfInBounds_toArray, List.set_cons_zero, List.set_cons_succ]
      refine takeD (i := 23) (d := some 98) (v := _) rfl rfl (by kernel_rfl) (by kernel_rfl) (by kernel_rfl) (fun _ _ _ h => h) (Or.inl ⟨by rfl, fun wz hz => by (go_simp; try with_reducible rfl)⟩) S0 ?_
      try simp only [Act.put, List.setIfInBounds_toArray, List.set_cons_zero, List.set_cons_succ]
      refine takeD (i := 24) (d := some 99) (v := _) rfl rfl (by kernel_rfl) (by kernel_rfl) (by kernel_rfl) (fun _ _ _ h => h) (Or.inl ⟨by rfl, fun wz hz => by (go_simp; try with_reducible rfl)⟩) S0 ?_
      try simp only [Act.put, List.setIfInBounds_toArray, List.set_cons_zero, List.set_cons_succ]
      refine takeD (i := 25) (d := some 100) (v := _) rfl rfl (by kernel_rfl) (by kernel_rfl) (by kernel_rfl) (fun _ _ _ h => h) (Or.inl ⟨by rfl, fun wz hz => by (go_simp; try with_reducible rfl)⟩) S0 ?_
      try simp only [Act.put, List.setIfInBounds_toArray, List.set_cons_zero, List.set_cons_succ]
      refine takeD (i := 26) (d := some 101) (v := _) rfl rfl (by kernel_rfl) (by kernel_rfl) (by kernel_rfl) (fun _ _ _ h => h) (Or.inl ⟨by rfl, fun wz hz => by (go_simp; try with_reducible rfl)⟩) S0 ?_
      try simp only [Act.put, List.setIfInBounds_toArray, List.set_cons_zero, List.set_cons_succ]
      refine takeD (i := 27) (d := some 102) (v := _) rfl rfl (by kernel_rfl) (by kernel_rfl) (by kernel_rfl) (fun _ _ _ h => h) (Or.inl ⟨by rfl, fun wz hz => by (go_simp; try with_reducible rfl)⟩) S0 ?_
      try simp only [Act.put, List.setIfInBounds_toArray, List.set_cons_zero, List.set_cons_succ]
      refine takeD (i := 28) (d := some 103) (v := _) rfl rfl (by kernel_rfl) (by kernel_rfl) (by kernel_rfl) (fun _ _ _ h => h) (Or.inl ⟨by rfl, fun wz hz => by (go_simp; try with_reducible rfl)⟩) S0 ?_
      try simp only [Act.put, List.setIfInBounds_toArray, List.set_cons_zero, List.set_cons_succ]
      refine takeD (i := 29) (d := some 104) (v := _) rfl rfl (by kernel_rfl) (by kernel_rfl) (by kernel_rfl) (fun _ _ _ h => h) (Or.inl ⟨by rfl, fun wz hz => by (obtain ⟨d0, d1, d2, d3, d4, d5, d6, d7, d8⟩ := RD wz hz; go_simp; try with_reducible rfl)⟩) S0 ?_
      try simp only [Act.put, List.setIfInBounds_toArray, List.set_cons_zero, List.set_cons_succ]
      refine takeD (i := 31) (d := some 106) (v := _) rfl rfl (by kernel_rfl) (by kernel_rfl) (by kernel_rfl) (fun _ _ _ h => h) (Or.inl ⟨by rfl, fun wz hz => by (go_simp; try with_reducible rfl)⟩) S0 ?_
      try simp only [Act.put, List.setIfInBounds_toArray, List.set_cons_zero, List.set_cons_succ]
      refine wpAnyH_ready (rs := [30]) (by kernel_rfl) (by simp) (AllReadyH.cons rfl (fun K hK => ?_) AllReadyH.nil)
      go_simp
      refine (unhide CPI ⟨xk, xa, xq⟩ _ hxq).mono ?_
      rintro e wc ⟨rfl, hb⟩
      have S1 : BelS w9 wc := below_on S0 hb
      clear hb
      go_wp2_with fail
      refine hK.out _ _ S1 (fun S0 => ?_)
      clear hK K S1
      try simp only [Act.put, List.setIfInBounds_toArray, List.set_cons_zero, List.set_cons_succ]
      refine takeD (i := 32) (d := some 107) (v := _) rfl rfl (by kernel_rfl) (by kernel_rfl) (by kernel_rfl) (fun _ _ _ h => h) (Or.inl ⟨by rfl, fun wz hz => by (go_simp; try with_reducible rfl)⟩) S0 ?_
      try simp only [Act.put, List.setIfInBounds_toArray, List.set_cons_zero, List.set_cons_succ]
      refine takeD (i := 33) (d := some 108) (v := _) rfl rfl (by kernel_rfl) (by kernel_rfl) (by kernel_rfl) (fun _ _ _ h => h) (Or.inl ⟨by rfl, fun wz hz => by (go_simp; try with_reducible rfl)⟩) S0 ?_
      try simp only [Act.put, List.setIfInBounds_toArray, List.set_cons_zero, List.set_cons_succ]
      refine takeD (i := 34) (d := some 109) (v := _) rfl rfl (by kernel_rfl) (by kernel_rfl) (by kernel_rfl) (fun _ _ _ h => h) (Or.inl ⟨by rfl, fun wz hz => by (go_simp; try with_reducible rfl)⟩) S0 ?_
      try simp only [Act.put, List.setIfInBounds_toArray, List.set_cons_zero, List.set_cons_succ]
      refine takeD (i := 35) (d := some 110) (v := _) rfl rfl (by kernel_rfl) (by kernel_rfl) (by kernel_rfl) (fun _ _ _ h => h) (Or.inl ⟨by rfl, fun wz hz => by (go_simp; try with_reducible rfl)⟩) S0 ?_
      try simp only [Act.put, List.setIfInBounds_toArray, List.set_cons_zero, List.set_cons_succ]
      refine takeD (i := 36) (d := some 111) (v := _) rfl rfl (by kernel_rfl) (by kernel_rfl) (by kernel_rfl) (fun _ _ _ h => h) (Or.inl ⟨by rfl, fun wz hz => by (go_simp; try with_reducible rfl)⟩) S0 ?_
      try simp only [Act.put, List.setIfInBounds_toArray, List.set_cons_zero, List.set_cons_succ]
      refine takeD (i := 37) (d := some 112) (v := _) rfl rfl (by kernel_rfl) (by kernel_rfl) (by kernel_rfl) (fun _ _ _ h => h) (Or.inl ⟨by rfl, fun wz hz => by (go_simp; try with_reducible rfl)⟩) S0 ?_
      try simp only [Act.put, List.setIfInBounds_toArray, List.set_cons_zero, List.set_cons_succ]
      refine takeD (i := 38) (d := some 113) (v := _) rfl rfl (by kernel_rfl) (by kernel_rfl) (by kernel_rfl) (fun _ _ _ h => h) (Or.inl ⟨by rfl, fun wz hz => by (go_simp; try with_reducible rfl)⟩) S0 ?_
      try simp only [Act.put, List.setIfInBounds_toArray, List.set_cons_zero, List.set_cons_succ]
      refine takeD (i := 39) (d := some 114) (v := _) rfl rfl (by kernel_rfl) (by kernel_rfl) (by kernel_rfl) (fun _ _ _ h => h) (Or.inl ⟨by rfl, fun wz hz => by (go_simp; try with_reducible rfl)⟩) S0 ?_
      try simp only [Act.put, List.setIfInBounds_toArray, List.set_cons_zero, List.set_cons_succ]
      refine takeD (i := 40) (d := some 115) (v := _) rfl rfl (by kernel_rfl) (by kernel_rfl) (by kernel_rfl) (fun _ _ _ h => h) (Or.inl ⟨by rfl, fun wz hz => by (go_simp; try with_reducible rfl)⟩) S0 ?_
      try simp only [Act.put, List.setIfInBounds_toArray, List.set_cons_zero, List.set_cons_succ]
      refine takeD (i := 41) (d := some 116) (v := _) rfl rfl (by kernel_rfl) (by kernel_rfl) (by kernel_rfl) (fun _ _ _ h => h) (Or.inl ⟨by rfl, fun wz hz => by (go_simp; try with_reducible rfl)⟩) S0 ?_
      try simp only [Act.put, List.setIfInBounds_toArray, List.set_cons_zero, List.set_cons_succ]
      refine takeD (i := 42) (d := some 117) (v := _) rfl rfl (by kernel_rfl) (by kernel_rfl) (by kernel_rfl) (fun _ _ _ h => h) (Or.inl ⟨by rfl, fun wz hz => by (go_simp; try with_reducible rfl)⟩) S0 ?_
      try simp only [Act.put, List.setIfInBounds_toArray, List.set_cons_zero, List.set_cons_succ]
      refine takeD (i := 43) (d := some 118) (v := _) rfl rfl (by kernel_rfl) (by kernel_rfl) (by kernel_rfl) (fun _ _ _ h => h) (Or.inl ⟨by rfl, fun wz hz => by (go_simp; try with_reducible rfl)⟩) S0 ?_
      try simp only [Act.put, List.setIfInBounds_toArray, List.set_cons_zero, List.set_cons_succ]
      refine takeD (i := 44) (d := some 119) (v := _) rfl rfl (by kernel_rfl) (by kernel_rfl) (by kernel_rfl) (fun _ _ _ h => h) (Or.inl ⟨by rfl, fun wz hz => by (go_simp; try with_reducible rfl)⟩) S0 ?_
      try simp only [Act.put, List.setIfInBounds_toArray, List.set_cons_zero, List.set_cons_succ]
      refine takeD (i := 45) (d := some 120) (v := _) rfl rfl (by kernel_rfl) (by kernel_rfl) (by kernel_rfl) (fun _ _ _ h => h) (Or.inl ⟨by rfl, fun wz hz => by (go_simp; try with_reducible rfl)⟩) S0 ?_
      try simp only [Act.put, List.setIfInBounds_toArray, List.set_cons_zero, List.set_cons_succ]
      refine takeD (i := 46) (d := some 121) (v := _) rfl rfl (by kernel_rfl) (by kernel_rfl) (by kernel_rfl) (fun _ _ _ h => h) (Or.inl ⟨by rfl, fun wz hz => by (obtain ⟨d0, d1, d2, d3, d4, d5, d6, d7, d8⟩ := RD wz hz; go_simp; try with_reducible rfl)⟩) S0 ?_
      try simp only [Act.put, List.setIfInBounds_toArray, List.set_cons_zero, List.set_cons_succ]
      refine takeD (i := 48) (d := some 123) (v := _) rfl rfl (by kernel_rfl) (by kernel_rfl) (by kernel_rfl) (fun _ _ _ h => h) (Or.inl ⟨by rfl, fun wz hz => by (obtain ⟨d0, d1, d2, d3, d4, d5, d6, d7, d8⟩ := RD wz hz; go_simp; try with_reducible rfl)⟩) S0 ?_
      try simp only [Act.put, List.setIfInBounds_toArray, List.set_cons_zero, List.set_cons_succ]
      refine wpAnyH_ready (rs := [47]) (by kernel_rfl) (by simp) (AllReadyH.cons rfl (fun K hK => ?_) AllReadyH.nil)
      go_simp
      refine (unhide CTI _ (below_on (unhide HB9) S0)).mono ?_
      rintro e wc ⟨rfl, hb⟩
      have S1 : BelS w9 wc := below_on S0 hb
      clear hb
      go_wp2_with fail
      refine hK.out _ _ S1 (fun S0 => ?_)
      clear hK K S1
      try simp only [Act.put, List.setIfInBounds_toArray, List.set_cons_zero, List.set_cons_succ]
      refine wpAnyH_ready (rs := [49]) (by kernel_rfl) (by simp) (AllReadyH.cons rfl (fun K hK => ?_) AllReadyH.nil)
      go_simp
      refine (unhide CTS _).mono ?_
      rintro e wc ⟨rfl, hb⟩
      have S1 : BelS w9 wc := below_on S0 hb
      clear hb
      go_wp2_with fail
      refine hK.out _ _ S1 (fun S0 => ?_)
      clear hK K S1
      try simp only [Act.put, List.setIfInBounds_toArray, List.set_cons_zero, List.set_cons_succ]
      refine takeD (i := 50) (d := some 125) (v := _) rfl rfl (by kernel_rfl) (by kernel_rfl) (by kernel_rfl) (fun _ _ _ h => h) (Or.inl ⟨by rfl, fun wz hz => by (go_simp; try with_reducible rfl)⟩) S0 ?_
      try simp only [Act.put, List.setIfInBounds_toArray, List.set_cons_zero, List.set_cons_succ]
      refine takeD (i := 51) (d := some 126) (v := _) rfl rfl (by kernel_rfl) (by kernel_rfl) (by kernel_rfl) (fun _ _ _ h => h) (Or.inl ⟨by rfl, fun wz hz => by (go_simp; try with_reducible rfl)⟩) S0 ?_
      try simp only [Act.put, List.setIfInBounds_toArray, List.set_cons_zero, List.set_cons_succ]
      refine wpAnyH_done (by kernel_rfl) ?_ _
      go_wp2_with fail
      go_meet
      exact ⟨rfl, S0⟩
  case rest =>
    obtain ⟨rfl, hS⟩ := hcut
    obtain ⟨w10, rfl⟩ : ∃ w', w' = wc := ⟨wc, rfl⟩
    have HL10 := hide ((unhide HL9).below hS)
    have HM10 := hide ((unhide HM9).below hS)
    have HB10 := hide (below_on (unhide HB9) hS)
    have R10 := hide ((unhide R9).below hS)
    clear hS HL9 HM9 HB9 R9 X9 Y9 RD A0 CTI CTS CPI CPS HXB
    have hex : t.extract 0 E = bs (flat rl) := by
      have h5 := extract_pre t 0 E
      rw [Nat.zero_add] at h5
      rw [h5]
      unfold pre
      rw [List.drop_zero, unhide HPX]
    have hsl : ∀ wx : World, (Instr.slice 9 (.string t) none (some (.int .i64 (E : Int))) none).run Tryz.prog wx = .ok (.string (bs (flat rl))) wx := fun wx => by
      have := run_slice_string_to_if (P := Tryz.prog) wx 9 t .i64 (E : Int) Tryz.underlying9
      rw [this, if_pos (by omega), Int.toNat_natCast, hex]
    clear hex HPX
    have HSL := hide hsl
    clear hsl
    go_wp2
    go_loopw [19] (fun j wr => ∃ i : Nat, i ≤ rl.length ∧ j = .int .i64 (i : Int) ∧ Hid (BelS w10 wr)) (fun j _ => rl.length - (intOf j).toNat)
    case atStart => exact ⟨0, Nat.zero_le _, rfl, hide (Below.refl _ _)⟩
    case round =>
      obtain ⟨i, hi, rfl, HBr⟩ := hrel
      by_cases hlt : i < rl.length
      · obtain ⟨b1, o1, rfl, hq1⟩ := ((unhide HL10).below (unhide HBr)).at hlt
        obtain ⟨b2, o2, rfl, hq2⟩ := ((unhide HM10).below (unhide HBr)).at hlt
        obtain ⟨c0, c1', c2'⟩ := hq1 hlt
        obtain ⟨d0, d1, d2⟩ := hq2 hlt
        obtain ⟨q, hqe⟩ : ∃ q, rl[i] = q := ⟨_, rfl⟩
        rw [hqe] at c0 c1' c2' d0 d1 d2
        have i0 : (0 : Int) ≤ (i : Int) := by omega
        have i1 : (i : Int) < (rl.length : Int) := by omega
        clear hq1 hq2 hqe
        go_wp2_with fail
        go_quiet (fail)
        go_wp2
        go_roundw
        case rel => exact ⟨i + 1, by omega, by go_num, hide (below_drewN (unhide HBr) _)⟩
        case measure => simp [intOf]; omega
      · have HB11 := hide (below_on (unhide HB10) (unhide HBr))
        have R11 := hide ((unhide R10).below (unhide HBr))
        obtain ⟨w11, hw11⟩ : ∃ w', w' = wr := ⟨wr, rfl⟩
        rw [← hw11] at HB11 R11 ⊢
        clear HBr HL10 HM10 HB10 R10 hw11
        have hsl := unhide HSL
        have RD : ∀ wz, BelS w11 wz → wz.cell? ⟨w1.heap.size, 0, none⟩ = some (.int .i64 rk) ∧ wz.cell? ⟨w1.heap.size, 1, none⟩ = some (.int .i64 ra) ∧ wz.cell? ⟨w1.heap.size, 2, none⟩ = some (.string (bs rq)) := fun wz hz => ⟨by simpa using ((unhide R11).below hz).at 0, by simpa using ((unhide R11).below hz).at 1, by simpa using ((unhide R11).below hz).at 2⟩
        have A0 := hide (show BelS w11 w11 from Below.refl _ _)
        have CW := hide (fun wx => unhide CWI (flat rl) wx (by omega))
        have hwf := wrote_flat rl ⟨rk, ra, rq⟩ (by omega)
        obtain ⟨⟨mo, mb⟩, hmo⟩ : ∃ x, wrote (flat rl) ⟨rk, ra, rq⟩ = x := ⟨_, rfl⟩
        rw [hmo] at CW hwf
        simp only at CW
        clear hmo CWI
        go_wp2_with fail
        go_cut [20, 21] from 142 to 149 (fun v20 v21 wx => v20 = .string (bs mo) ∧ v21 = .bool mb ∧ BelS w11 wx)
        case first =>
          go_region_held3 (fun wx => BelS w11 wx)
            (first | (with_reducible assumption) | exact Below.drew (unhide A0) | exact below_on (by assumption) (by assumption))
            (first
            | (go_at_call 12; refine (unhide CW _).mono ?_; rintro e wt' ⟨rfl, hb⟩; have SA : BelS w11 wt' := below_on (w := w11) (by assumption) hb))
          go_wp2_with fail
          go_meet
          exact ⟨rfl, rfl, by first | assumption | exact SA⟩
        case rest =>
          obtain ⟨rfl, rfl, hS⟩ := hcut
          obtain ⟨w12, rfl⟩ : ∃ w', w' = wc := ⟨wc, rfl⟩
          have HB12 := hide (below_on (unhide HB11) hS)
          have R12 := hide ((unhide R11).below hS)
          clear hS HB11 R11 RD A0 CW
          have hem := bs_empty (putRec ⟨rk, ra, rq⟩)
          rw [putRec_nil] at hem
          by_cases ho : recOk ⟨rk, ra, rq⟩ = true
          case neg =>
            rw [if_neg ho] at hwf
            rw [Bool.not_eq_true] at ho
            rw [ho] at hem
            cases hwf
            clear ho
            go_wp2
            go_ret
            exact ⟨rfl, unhide HB12⟩
          rw [if_pos ho] at hwf
          rw [ho] at hem
          cases hwf
          obtain ⟨M, pR, sM, hM, hpR, hsM, J⟩ := jou_end rl ⟨rk, ra, rq⟩ E (unhide HOK) ho hfe (by omega)
          rw [hM, hsM]
          rw [hpR] at hem ⊢
          have HJ := hide J
          have hzM := J.size
          have hzp := J.small
          have hlo := J.lo
          have hle := J.le
          have hhi := J.hi
          have HSL2 := hide J.list
          have hs2 := J.slice
          have b1 : (sM.size : Int) ≤ 430 := by omega
          have b2 : (1 : Int) ≤ (sM.size : Int) := by omega
          have b3 : (1 : Int) ≤ ((bs pR).size : Int) := by omega
          have b4 : ((bs pR).size : Int) ≤ (sM.size : Int) := by omega
          have HZM := hide hzM
          have HZP := hide hzp
          clear hM hpR hsM ho CGI CRI HOK J hzM hzp hlo hle hhi
          go_wp2_with fail
          refine ((unhide HJ).get _).mono ?_
          rintro e w13 ⟨rfl, hb⟩
          have HB13 := hide (below_al (below_on (unhide HB12) hb) (.cells #[.int .i64 rk, .int .i64 ra, .string (bs rq)] 25))
          have R13 := hide (((unhide R12).below hb).al (.cells #[.int .i64 rk, .int .i64 ra, .string (bs rq)] 25))
          have K13 := hide (blk_new w13 #[.int .i64 rk, .int .i64 ra, .string (bs rq)] 25)
          have HNE0 := hide ((unhide R12).below hb).lt
          clear hb HB12 R12
          go_wp2_with fail
          refine ((unhide HJ).more _).mono ?_
          rintro e w14 ⟨ao3, c3, rfl, hb⟩
          have HB14 := hide (below_on (unhide HB13) hb)
          have R14 := hide ((unhide R13).below hb)
          have K14 := hide ((unhide K13).below hb)
          clear hb HB13 R13 K13
          go_wp2_with fail
          refine ((unhide HJ).cut _).mono ?_
          rintro e w15 ⟨ao4, c4, rfl, hb⟩
          have HB15 := hide (below_on (unhide HB14) hb)
          have R15 := hide ((unhide R14).below hb)
          have K15 := hide ((unhide K14).below hb)
          have HNE := hide (unhide R15).lt
          have HNF := hide (unhide K15).lt
          clear hb HB14 R14 K14 hs2
          have hcv := fun w s => run_bytes_of_string (P := Tryz.prog) w 9 22 5 s Tryz.underlying9 Tryz.underlying22 Tryz.underlying5
          go_wp2_with fail
          refine (at_any _ _ _ _ 3 _ ((unhide HK).below ((unhide HB15).drew.alloc (unhide HB15).size _) (Nat.le_refl _)) (by decide)).mono ?_
          rintro e w17 ⟨x3, rfl, hx30, hx31, hw⟩
          have HR := hide (row_made w15 sM (grownCap w15 sM.size 0 5))
          have HB17 := hide ((unhide HB15).drew.alloc (unhide HB15).size (.cells (bytesRow sM (grownCap w15 sM.size 0 5)) 5 ((bytesRow sM (grownCap w15 sM.size 0 5)).size, (bytesRow sM (grownCap w15 sM.size 0 5)).size + 1)))
          have R17 := hide ((unhide R15).drew.al (.cells (bytesRow sM (grownCap w15 sM.size 0 5)) 5 ((bytesRow sM (grownCap w15 sM.size 0 5)).size, (bytesRow sM (grownCap w15 sM.size 0 5)).size + 1)))
          have K17 := hide ((unhide K15).drew.al (.cells (bytesRow sM (grownCap w15 sM.size 0 5)) 5 ((bytesRow sM (grownCap w15 sM.size 0 5)).size, (bytesRow sM (grownCap w15 sM.size 0 5)).size + 1)))
          rw [hw] at HR HB17 R17 K17
          have hBg : w.heap.size ≤ w15.heap.size := by have := (unhide HB15).size; simpa using this
          clear hw hcv HB15 R15 K15
          obtain ⟨X3, rfl⟩ := Int.eq_ofNat_of_zero_le hx30
          have htp : (0 : Int) < ((bs pR).size : Int) := by omega
          go_wp2_with fail
          have hI0 : 0 ≤ (X3 : Int) % ((bs pR).size : Int) := Int.emod_nonneg _ (by omega)
          have hI1 : (X3 : Int) % ((bs pR).size : Int) < ((bs pR).size : Int) := Int.emod_lt_of_pos _ htp
          generalize (X3 : Int) % ((bs pR).size : Int) = y at hI0 hI1 ⊢
          have hz0 : 0 ≤ (sM.size : Int) - 1 - y := by omega
          have hz1 : (sM.size : Int) - 1 - y < (sM.size : Int) := by omega
          have hz2 : (sM.size : Int) - ((bs pR).size : Int) ≤ (sM.size : Int) - 1 - y := by omega
          generalize (sM.size : Int) - 1 - y = z at hz0 hz1 hz2 ⊢
          obtain ⟨I, rfl⟩ := Int.eq_ofNat_of_zero_le hz0
          have hIl : I < sM.data.toList.length := by rw [len_eq]; omega
          have hwr : wrap64 (I : Int) = (I : Int) := by unfold wrap64; omega
          rw [hwr]
          clear hwr
          clear hI0 hI1 hx30 hx31
          go_cut [191] from 191 to 203 (fun _ wx => ∃ Y : Nat, 0 < Y ∧ Y < 256 ∧ Row wx w15.heap.size (sM.data.toList.set I (sM.data.toList[I] ^^^ UInt8.ofNat Y)) ∧ Below w.heap.size w wx ∧ Blk wx w1.heap.size #[.int .i64 rk, .int .i64 ra, .string (bs rq)] 25 ∧ Blk wx w13.heap.size #[.int .i64 rk, .int .i64 ra, .string (bs rq)] 25)
          case first =>
            have hc := (unhide HR).cell I hIl
            have hf := (unhide HR).frozen I hIl
            have hn1 : w1.heap.size ≠ w15.heap.size := by have := unhide HNE; omega
            have hn2 : w13.heap.size ≠ w15.heap.size := by have := unhide HNF; omega
            clear hbb hbig hl hem htp b1 b2 b3 b4 hq12 hrl hfe hE hts hus hxq
            go_region_with (go_at_call 17; refine (at_any _ _ _ _ 4 _ ((unhide HK).below (unhide HB17).drew (Nat.le_refl _)) (by decide)).mono ?_; rintro e w18 ⟨x4, rfl, hx40, hx41, rfl⟩)
            all_goals
              obtain ⟨Y, hY0, hY1, hrow, hbl⟩ := row_xor (unhide HR) hIl hx40 hx41 (unhide HB17) hBg
              go_wp2_with fail
              go_meet
              exact ⟨Y, hY0, hY1, hrow, hbl, ((unhide R17).other _ _ _ hn1).drew, ((unhide K17).other _ _ _ hn2).drew⟩
          case rest =>
            obtain ⟨Y, hY0, hY1, hrow, hbc, hrr, hkk⟩ := hcut
            have hstr := hrow.str (grownCap w15 sM.size 0 5)
            rw [List.length_set, len_eq] at hstr
            have HZ2 := hide hz2
            have CR3 := hide (fun wx => spoilt_at (unhide HJ) I hIl (by have := unhide HZ2; have := unhide HZM; have := unhide HZP; omega) (sM.data.toList[I] ^^^ UInt8.ofNat Y) (xor_ne _ _ hY0 hY1) wx)
            generalize sM.data.toList.set I (sM.data.toList[I] ^^^ UInt8.ofNat Y) = l at hrow hstr CR3
            have HBC := hide hbc
            have HRR := hide hrr
            have HKK := hide hkk
            clear hbc hrow hrr hkk HR HB17 R17 K17 HK
            go_wp2_with fail
            refine (unhide CR3 _).mono ?_
            rintro e w19 ⟨ao5, c5, rfl, hb⟩
            have HB19 := hide (below_on (unhide HBC) hb)
            have m0 := ((unhide HRR).below hb).at 0
            have m1 := ((unhide HRR).below hb).at 1
            have m2 := ((unhide HRR).below hb).at 2
            have n0 := ((unhide HKK).below hb).at 0
            have n1 := ((unhide HKK).below hb).at 1
            have n2 := ((unhide HKK).below hb).at 2
            simp at m0 m1 m2 n0 n1 n2
            clear hb HBC HRR HKK HJ
            go_wp2
            go_ret
            exact ⟨rfl, unhide HB19⟩

set_option maxRecDepth 100000 in
theorem contract (H : Type) (enc : TypeId × Value → H) (W : World) (base : Nat) (args : Array Value) (ds gs : List (DataW H)) (before : List MemPlace)
    (hval : ∀ (j : Nat) t v, Tryz.f3.params[j]? = some t → args[j]? = some v → Value.okWide Tryz.prog W .any base t v)
    (hW : DataW.Whole enc Tryz.prog Tryz.f3.params.toList Rows.fnJournalSpec.vars false W args.toList ds gs before) (hL : laidMetH Tryz.prog Rows.fnJournalRow.laid W) (hsh : W.ShapedOpen Tryz.prog) :
    Calls Tryz.prog 3 args W fun e W' => ∃ v, e = .returned v ∧ Rows.fnJournalSpec.post enc Tryz.prog Tryz.f3 false true false false W args v W' := by
  have hW' := hW
  obtain ⟨p, q, hA0, hV, rfl, hfz, hnd⟩ := hW
  have hA : DataW.TrodAll enc Tryz.prog W 0 (fun _ => true) true Tryz.f3.params.toList args.toList ds p := hA0
  rw [Tryz.params3] at hA hval
  obtain ⟨v0, vs0, d0, ds0, p0, q0, hargs, rfl, rfl, h0, r0⟩ := trodAll_cons hA
  obtain ⟨rfl, rfl, rfl⟩ := trodAll_nil r0
  obtain rfl : args = #[v0] := by cases args; simp_all
  obtain ⟨rfl, rfl⟩ := trodVars_none hV
  obtain ⟨a0, len0, cap0, rfl⟩ := okWide_slice Tryz.underlying22 (hval 0 22 v0 rfl rfl)
  have k0 := h0
  have lt0 : ∀ x ∈ p0, x.block < W.heap.size := by obtain ⟨m, hm⟩ := k0; exact DataW.trod_lt m _ _ _ hm
  obtain ⟨z0, w0⟩ : ∃ zs, IsRow W a0 len0 cap0 zs := by
    obtain ⟨fuel, hf⟩ := h0
    rcases open_ints Tryz.underlying22 Tryz.underlying5 (by kernel_rfl) hf with ⟨hcs, _⟩ | ⟨x, l, c, zs, hcs, _, hl, hm, hz, _, hcell, hwz⟩
    · simp [Value.cells] at hcs
      obtain ⟨rfl, rfl, rfl⟩ := hcs
      exact ⟨[], .inl ⟨rfl, rfl, rfl, rfl⟩⟩
    · simp [Value.cells] at hcs
      obtain ⟨rfl, rfl, rfl⟩ := hcs
      exact ⟨zs, .inr ⟨_, rfl, hl, hm, by simpa using hz, hcell, hwz⟩⟩
  clear hA0
  refine (walk a0 len0 cap0 z0 W w0 hL hsh).mono fun e W' ⟨he, bel⟩ => ?_
  subst he
  exact ⟨_, rfl, _, _, _, [], _, [], hW', trodAll_mk1 (shut_bool Tryz.underlying4 _), (trodAll_cons_mk (Below.trod laidOut (by kernel_rfl) (of_decide_eq_true (by kernel_rfl)) k0 bel lt0) trodAll_mk0), rfl, bel.frame _, fun h => by cases h⟩

theorem reads (os : Os) {H : Type} (enc : TypeId × Value → H) : ∃ places, DataW.whole enc Tryz.prog ((World.laidAll Tryz.prog os Rows.fnJournalRow.laid).forCall (fun _ _ => 0) ⟨#[], #[.slice none 0 0], []⟩).memory Tryz.f3.params.toList Rows.fnJournalSpec.vars false #[Value.slice none 0 0].toList 8 = some ([.nil], [], places) :=
  ⟨[], by kernel_rfl⟩

set_option maxRecDepth 100000 in
theorem lifted (os : Os) (started : os.Started) (H : Type) (enc : TypeId × Value → H) (F : Stop.Interp) :
    ReturnsInHanded {} Tryz.checked os 3 .any ((OpenSpec.ofChange Rows.fnJournalSpec).preRow enc Tryz.prog Tryz.f3 Rows.fnJournalRow.domain false Rows.fnJournalRow.laid) (((OpenSpec.ofChange Rows.fnJournalSpec).at F).post enc Tryz.prog Tryz.f3 false true false false) := by
  obtain ⟨places, hx⟩ := reads os enc
  refine returnsInHanded_of_row (C := Tryz.checked) (s := OpenSpec.ofChange Rows.fnJournalSpec) own started (by kernel_rfl) Tryz.func3
    (witness_row_at (enc := enc) (C := Tryz.checked) false (World.laidAll Tryz.prog os Rows.fnJournalRow.laid) #[.slice none 0 0] (World.laidAll_os _ _ _) (by kernel_rfl) (by kernel_rfl) (by kernel_rfl)
      (OpenSpec.preRow_of_cond 8 hx (by kernel_rfl) (fun k hk => by cases hk) (by kernel_rfl) (laidMet_laidAll _ (by kernel_rfl) (by kernel_rfl)))) ?_
  intro W base args ds gs before hval hW _ _ _ hL hsh _
  exact contract H enc W base args ds gs before hval hW hL hsh

theorem said : Rows.FnJournalSaid :=
  OpenClaim.holds_of_cond 3 Tryz.f3 rfl rfl rfl rfl rfl rfl rfl ⟨rfl, rfl, rfl, rfl, rfl⟩ rfl rfl rfl rfl rfl (by kernel_rfl) Tryz.func3 (by kernel_rfl)
    (of_decide_eq_true (by kernel_rfl)) (by unfold Func.isWrapper; first | (rw [if_pos (by decide +kernel)]; kernel_rfl) | (rw [if_neg (by decide +kernel)]; exact ⟨rfl, rfl⟩))
    (fun os started H enc _ F => by rw [OpenClaim.pre_eq_preRow]; exact lifted os started H enc F)

theorem plain (f : FuncId) (fn : Func) (hf : Tryz.pinned.checked.prog.funcNamed Rows.fnJournalRow.func = some f) (hfn : Tryz.pinned.checked.prog.funcs[f]? = some fn) :
    true = Tryz.pinned.checked.prog.looks [] ∧ ∀ (j : Nat) t, fn.params[j]? = some t → Tryz.pinned.checked.prog.wantsStandIn t = false := by
  obtain rfl : f = 3 := Option.some.inj ((show Tryz.prog.funcNamed Rows.fnJournalRow.func = some 3 by kernel_rfl).symm.trans hf) |>.symm
  obtain rfl : fn = Tryz.f3 := (Option.some.inj (Tryz.func3.symm.trans hfn)).symm
  refine ⟨by kernel_rfl, fun j t ht => ?_⟩
  rw [Tryz.params3] at ht
  obtain rfl : t = 22 := by simpa using Array.mem_of_getElem? ht
  exact (show Tryz.prog.wantsStandIn 22 = false by kernel_rfl)
end Go.Proofs.YtobpjegfgegkcaaGreatDoor.fnJournal

namespace Go.Proofs.YtobpjegfgegkcaaGreatDoor
theorem fnJournal_card : Rows.FnJournalCardSaid :=
  Claim7.holds_tied_plain_at .later [] _ _ _ _ fnJournal.said (fun _ h => by cases h) (by kernel_rfl) (fun _ h => by cases h) fnJournal_row_tie rfl ⟨rfl, rfl⟩ (by kernel_rfl) rfl fnJournal.plain (by kernel_rfl)
#print axioms fnJournal_card
end Go.Proofs.YtobpjegfgegkcaaGreatDoor
