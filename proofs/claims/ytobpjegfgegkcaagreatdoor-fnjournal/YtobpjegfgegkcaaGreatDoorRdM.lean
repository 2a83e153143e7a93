/-
  The program's reader: an entry of a log; a walk over the dump.
-/
import Derived.Test.YtobpjegfgegkcaaGreatDoorRdL
namespace Go.Proofs.YtobpjegfgegkcaaGreatDoor
open Go.RowKit
set_option linter.unusedVariables false
set_option linter.unusedSimpArgs false
/-- the record that a log's entry at a byte holds, and behind which byte it ends -/
def readEntry (s : ByteArray) (i : Nat) : Option (Rc × Int) :=
  if s.size < i + 4 then none
  else if (getText s.data.toList ((i + 4 : Nat) : Int)).2 < 0 then none
  else match gotRec (getText s.data.toList ((i + 4 : Nat) : Int)).1 with
    | none => none
    | some r => if crc (getText s.data.toList ((i + 4 : Nat) : Int)).1 = svN s i 4 then some (r, (getText s.data.toList ((i + 4 : Nat) : Int)).2) else none
theorem getText_len2 (l : List UInt8) (i : Int) : (getText l i).1.length ≤ 2000 := by
  by_cases h : (getText l i).2 < 0
  · unfold getText at h ⊢
    simp only at h ⊢
    split
    · simp
    · rename_i hc
      simp only [List.length_take]
      omega
  · exact (getText_split l i h).2.1

set_option maxRecDepth 100000 in
set_option maxHeartbeats 4000000 in
theorem nextEntry_any (g : Nat) (s : ByteArray) (i : Nat) (bg : Int) (w : World) (h : Rd w g s i bg) (hs : s.size ≤ 1048576) (hi : i ≤ s.size) :
    Calls Tryz.prog 24 #[rdp g] w fun e w' => Reads w g s i ((readEntry s i).map (fun x => (rcv x.1, x.2))) e w' := by
  have hgl : g < w.heap.size := Rd.lt h
  have hBg : w.heap.size ≠ g := by omega
  have CS := hide (fun wx (hr : Rd wx g s i i) => nextSum_any g s i i wx hr hs hi)
  have CT := hide (fun wx (hr : Rd wx g s ((i + 4 : Nat) : Int) i) (h4 : i + 4 ≤ s.size) => nextText_any g s ((i + 4 : Nat) : Int) i wx hr hs (by omega) (by omega))
  have k1 := (Rd.al h (.cells #[.int .i64 0, .int .i64 0, .string ⟨#[]⟩] 25)).at 1
  have k2 := (Rd.al h (.cells #[.int .i64 0, .int .i64 0, .string ⟨#[]⟩] 25)).at 2
  have kf := (Rd.al h (.cells #[.int .i64 0, .int .i64 0, .string ⟨#[]⟩] 25)).f 2
  simp only [List.getElem?_toArray, List.getElem?_cons_succ, List.getElem?_cons_zero] at k1 k2
  have HR0 := hide (Rd.begin (Rd.al h (.cells #[.int .i64 0, .int .i64 0, .string ⟨#[]⟩] 25)) (i : Int))
  have V0 := hide ((blk_new w #[.int .i64 0, .int .i64 0, .string ⟨#[]⟩] 25).other g 2 (.int .i64 (i : Int)) hBg)
  have G0 := hide (grownBy_set (gby_below (r := some g) (below_al (Below.refl _ w) (.cells #[.int .i64 0, .int .i64 0, .string ⟨#[]⟩] 25))) 2 (.int .i64 (i : Int)))
  rw [set_old _ _ _ _ _ hgl] at HR0 V0 G0
  clear h
  by_cases h4 : i + 4 ≤ s.size
  case neg =>
    have HX : readEntry s i = none := by unfold readEntry; rw [if_pos (by omega)]
    rw [HX]
    simp only [Option.map_none]
    have CS' := hide (fun wx hr => by have := unhide CS wx hr; rw [if_neg h4] at this; exact this)
    clear CS HX
    go_enter Tryz.func24, Tryz.ntmps24
    go_wp2_with fail
    refine (unhide CS' _ (unhide HR0)).mono ?_
    rintro e w1 ⟨hg, rfl, hr⟩
    have HG := hide (grownBy_trans (unhide G0) hg)
    have HR := hide hr
    clear hg hr
    go_wp2
    exact ⟨rfl, unhide HG, rfl, unhide HR⟩
  have CS' := hide (fun wx hr => by have := unhide CS wx hr; rw [if_pos h4] at this; exact this)
  have CT' := hide (fun wx hr => unhide CT wx hr h4)
  have hx4 := svN_lt s i 4
  have HX : readEntry s i = if (getText s.data.toList ((i + 4 : Nat) : Int)).2 < 0 then none
    else match gotRec (getText s.data.toList ((i + 4 : Nat) : Int)).1 with
    | none => none
    | some r => if crc (getText s.data.toList ((i + 4 : Nat) : Int)).1 = svN s i 4 then some (r, (getText s.data.toList ((i + 4 : Nat) : Int)).2) else none := by
    conv => lhs; unfold readEntry
    rw [if_neg (by omega)]
  rw [HX]
  clear HX CS CT
  have htl := getText_len2 s.data.toList ((i + 4 : Nat) : Int)
  obtain ⟨⟨t, j⟩, htj⟩ : ∃ x, getText s.data.toList ((i + 4 : Nat) : Int) = x := ⟨_, rfl⟩
  rw [htj] at CT' htl ⊢
  simp only at CT' htl ⊢
  clear htj
  obtain ⟨x, hx⟩ : ∃ x, svN s i 4 = x := ⟨_, rfl⟩
  rw [hx] at CS' hx4 ⊢
  clear hx
  by_cases hj : j < 0
  · rw [if_pos hj]
    simp only [Option.map_none]
    have CT2 := hide (fun wx hr => by have := unhide CT' wx hr; rw [if_pos hj] at this; exact this)
    clear CT'
    go_enter Tryz.func24, Tryz.ntmps24
    go_wp2_with fail
    refine (unhide CS' _ (unhide HR0)).mono ?_
    rintro e w1 ⟨hg, rfl, hr⟩
    have HG := hide (grownBy_trans (unhide G0) hg)
    have HR := hide hr
    clear hg hr
    go_wp2_with fail
    refine (unhide CT2 _ (unhide HR)).mono ?_
    rintro e w2 ⟨hg, rfl, hr⟩
    have HG2 := hide (grownBy_trans (unhide HG) hg)
    have HR2 := hide hr
    clear hg hr
    go_wp2
    exact ⟨rfl, unhide HG2, rfl, unhide HR2⟩
  rw [if_neg hj]
  have CT2 := hide (fun wx hr => by have := unhide CT' wx hr; rw [if_neg hj] at this; exact this)
  clear CT'
  have CG := hide (fun wx => by have := implGetRec_any (bs t) wx (by rw [bs_size]; omega); rw [show gotRec (bs t).data.toList = gotRec t from rfl] at this; exact this)
  have CC := hide (fun wx (hr : Rd wx g s j i) => by have := sumOf_anyR (P := (.string s, .int .i64 j, .int .i64 i)) g (bs t) wx (by rw [bs_size]; omega) hr; rw [show crc (bs t).data.toList = crc t from rfl] at this; exact this)
  have CF := hide (fun wx (hr : Rd wx g s j i) => fail_any g s j i wx hr)
  have hcl : crc t < 4294967296 := xor_lt32 (crcTo_lt _) (by decide)
  obtain ⟨c, hc⟩ : ∃ c, crc t = c := ⟨_, rfl⟩
  rw [hc] at CC hcl ⊢
  clear hc
  obtain ⟨o, ho⟩ : ∃ o, gotRec t = o := ⟨_, rfl⟩
  rw [ho] at CG ⊢
  clear ho
  cases o with
  | none =>
    simp only [recAns] at CG
    simp only [Option.map_none]
    go_enter Tryz.func24, Tryz.ntmps24
    go_wp2_with fail
    refine (unhide CS' _ (unhide HR0)).mono ?_
    rintro e w1 ⟨hg, rfl, hr⟩
    have HG := hide (grownBy_trans (unhide G0) hg)
    have HR := hide hr
    clear hg hr
    go_wp2_with fail
    refine (unhide CT2 _ (unhide HR)).mono ?_
    rintro e w2 ⟨hg, rfl, hr⟩
    have HG2 := hide (grownBy_trans (unhide HG) hg)
    have HR2 := hide hr
    clear hg hr
    go_wp2_with fail
    refine (unhide CG _).mono ?_
    rintro e w3 ⟨rfl, hb⟩
    have HG3 := hide (grownBy_below (grownBy_below (unhide HG2) hb) (below_al (Below.refl _ _) (.cells #[.int .i64 0, .int .i64 0, .string (bs [])] 25)))
    have HR3 := hide (show Rd _ g s j i from Rd.al (Rd.below (unhide HR2) hb) (.cells #[.int .i64 0, .int .i64 0, .string (bs [])] 25))
    clear hb
    go_wp2_with fail
    refine (unhide CF _ (unhide HR3)).mono ?_
    rintro e w4 ⟨rfl, rfl⟩
    go_wp2
    exact ⟨rfl, unhide HG3, rfl, _, unhide HR3⟩
  | some r =>
    obtain ⟨rk, ra, rq⟩ := r
    simp only [recAns] at CG
    by_cases hcx : c = x
    case neg =>
      simp only [if_neg hcx, Option.map_none]
      have hne : ((c : Int) == (x : Int)) = false := by simp; omega
      have hne2 : ¬ (c : Int) = (x : Int) := by omega
      clear hcx
      go_enter Tryz.func24, Tryz.ntmps24
      go_wp2_with fail
      refine (unhide CS' _ (unhide HR0)).mono ?_
      rintro e w1 ⟨hg, rfl, hr⟩
      have HG := hide (grownBy_trans (unhide G0) hg)
      have HR := hide hr
      clear hg hr
      go_wp2_with fail
      refine (unhide CT2 _ (unhide HR)).mono ?_
      rintro e w2 ⟨hg, rfl, hr⟩
      have HG2 := hide (grownBy_trans (unhide HG) hg)
      have HR2 := hide hr
      clear hg hr
      go_wp2_with fail
      refine (unhide CG _).mono ?_
      rintro e w3 ⟨rfl, hb⟩
      have HG3 := hide (grownBy_below (grownBy_below (unhide HG2) hb) (below_al (Below.refl _ _) (.cells #[.int .i64 rk, .int .i64 ra, .string (bs rq)] 25)))
      have HR3 := hide (show Rd _ g s j i from Rd.al (Rd.below (unhide HR2) hb) (.cells #[.int .i64 rk, .int .i64 ra, .string (bs rq)] 25))
      clear hb
      go_wp2_with fail
      refine (unhide CC _ (unhide HR3)).mono ?_
      rintro e w4 ⟨rfl, hr4, hg4⟩
      have HG4 := hide (grownBy_trans (unhide HG3) hg4)
      have HR4 := hide (show Rd w4 g s j i from hr4)
      clear hr4 hg4
      go_wp2_with fail
      refine (unhide CF _ (unhide HR4)).mono ?_
      rintro e w5 ⟨rfl, rfl⟩
      go_wp2
      exact ⟨rfl, unhide HG4, rfl, _, unhide HR4⟩
    · subst hcx
      simp only [if_true, Option.map_some]
      go_enter Tryz.func24, Tryz.ntmps24
      go_wp2_with fail
      refine (unhide CS' _ (unhide HR0)).mono ?_
      rintro e w1 ⟨hg, rfl, hr⟩
      have HG := hide (grownBy_trans (unhide G0) hg)
      have HR := hide hr
      have V1 := hide ((unhide V0).gby hg hBg)
      clear hg hr
      go_wp2_with fail
      refine (unhide CT2 _ (unhide HR)).mono ?_
      rintro e w2 ⟨hg, rfl, hr⟩
      have HG2 := hide (grownBy_trans (unhide HG) hg)
      have HR2 := hide hr
      have V2 := hide ((unhide V1).gby hg hBg)
      clear hg hr
      go_wp2_with fail
      refine (unhide CG _).mono ?_
      rintro e w3 ⟨rfl, hb⟩
      have HG3 := hide (grownBy_below (grownBy_below (unhide HG2) hb) (below_al (Below.refl _ _) (.cells #[.int .i64 rk, .int .i64 ra, .string (bs rq)] 25)))
      have HR3 := hide (show Rd _ g s j i from Rd.al (Rd.below (unhide HR2) hb) (.cells #[.int .i64 rk, .int .i64 ra, .string (bs rq)] 25))
      have V3 := hide (((unhide V2).below hb).al (.cells #[.int .i64 rk, .int .i64 ra, .string (bs rq)] 25))
      have U3 := hide (blk_new w3 #[.int .i64 rk, .int .i64 ra, .string (bs rq)] 25)
      have hg3 : g < w3.heap.size := (Rd.below (unhide HR2) hb).lt
      clear hb
      go_wp2_with fail
      refine (unhide CC _ (unhide HR3)).mono ?_
      rintro e w4 ⟨rfl, hr4, hg4⟩
      have HG4 := hide (grownBy_trans (unhide HG3) hg4)
      have HR4 := hide (show Rd w4 g s j i from hr4)
      have V4 := hide ((unhide V3).gby hg4 hBg)
      have U4 := hide ((unhide U3).gby hg4 (by omega))
      have u0 := (unhide U4).at 0
      have u1 := (unhide U4).at 1
      have u2 := (unhide U4).at 2
      have v0 := (unhide V4).at 0
      have v1 := (unhide V4).at 1
      have v2 := (unhide V4).at 2
      have f0 := (unhide V4).f 0
      have f1 := (unhide V4).f 1
      have f2 := (unhide V4).f 2
      simp at u0 u1 u2 v0 v1 v2
      clear hr4 hg4
      have hV := ((unhide V4).set 0 (.int .i64 rk)).set 1 (.int .i64 ra)
      have hV2 := hV.set 2 (.string (bs rq))
      simp at hV2
      have x0 := hV2.at 0
      have x1 := hV2.at 1
      have x2 := hV2.at 2
      simp at x0 x1 x2
      have HF := hide (show Rd _ g s j i from Rd.other (Rd.other (Rd.other (unhide HR4) w.heap.size 0 (.int .i64 rk) (Ne.symm hBg)) w.heap.size 1 (.int .i64 ra) (Ne.symm hBg)) w.heap.size 2 (.string (bs rq)) (Ne.symm hBg))
      clear hV hV2
      go_wp2
      refine bodyPost_ret (v := rcv ⟨rk, ra, rq⟩) (by simp [results, Tryz.results24, go_sem, x0, x1, x2]) rfl ⟨?_, rfl, unhide HF⟩
      exact grownBy_new (grownBy_new (grownBy_new (unhide HG4) _ _ _ (Nat.le_refl _)) _ _ _ (Nat.le_refl _)) _ _ _ (Nat.le_refl _)
end Go.Proofs.YtobpjegfgegkcaaGreatDoor
