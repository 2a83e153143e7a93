/-
  Several texts of this claim in one: RdM, ReadC, RcRow, OwnJ, ReadF (pack.py put them together); each says in its own remark what is proved.
-/
import Derived.Test.YtgdndekmkaknlaaGreatPackU
import Derived.Test.YtgdndekmkaknlaaGreatPackT
import Derived.Test.YtgdndekmkaknlaaGreatPackO
import Derived.Laws.MakeOwn
import Derived.Laws.AppendOwn
import Derived.Lib.SliceRun
import Derived.Deep.RegionWith
/-
  The program's reader: an entry of a log; a walk over the dump.
-/
namespace Go.Proofs.YtgdndekmkaknlaaGreat
open Go.RowKit
set_option linter.unusedVariables false
set_option linter.unusedSimpArgs false
/-- the record that a log's entry at a byte holds, and behind which byte it ends -/
def readEntry (s : ByteArray) (i : Nat) : Option (Rc × Int) :=
  if s.size < i + 4 then none
  else if (getText s.data.toList ((i + 4 : Nat) : Int)).2 < 0 then none
  else match gotRec (getText s.data.toList ((i + 4 : Nat) : Int)).1 with
    | none => none
    | some r => if crc (getText s.data.toList ((i + 4 : Nat) : Int)).1 = svN s i 4 then some (r, (getText s.data.toList ((i + 4 : Nat) : Int)).2) else none
theorem getText_len2 (l : List UInt8) (i : Int) : (getText l i).1.length ≤ 2000 := by
  by_cases h : (getText l i).2 < 0
  · unfold getText at h ⊢
    simp only at h ⊢
    split
    · simp
    · rename_i hc
      simp only [List.length_take]
      omega
  · exact (getText_split l i h).2.1

set_option maxRecDepth 100000 in
set_option maxHeartbeats 4000000 in
theorem nextEntry_any (g : Nat) (s : ByteArray) (i : Nat) (bg : Int) (w : World) (h : Rd w g s i bg) (hs : s.size ≤ 1048576) (hi : i ≤ s.size) :
    Calls Tryz.prog 43 #[rdp g] w fun e w' => Reads w g s i ((readEntry s i).map (fun x => (rcv x.1, x.2))) e w' := by
  have hgl : g < w.heap.size := Rd.lt h
  have hBg : w.heap.size ≠ g := by omega
  have CS := hide (fun wx (hr : Rd wx g s i i) => nextSum_any g s i i wx hr hs hi)
  have CT := hide (fun wx (hr : Rd wx g s ((i + 4 : Nat) : Int) i) (h4 : i + 4 ≤ s.size) => nextText_any g s ((i + 4 : Nat) : Int) i wx hr hs (by omega) (by omega))
  have k1 := (Rd.al h (.cells #[.int .i64 0, .int .i64 0, .string ⟨#[]⟩] 47)).at 1
  have k2 := (Rd.al h (.cells #[.int .i64 0, .int .i64 0, .string ⟨#[]⟩] 47)).at 2
  have kf := (Rd.al h (.cells #[.int .i64 0, .int .i64 0, .string ⟨#[]⟩] 47)).f 2
  simp only [List.getElem?_toArray, List.getElem?_cons_succ, List.getElem?_cons_zero] at k1 k2
  have HR0 := hide (Rd.begin (Rd.al h (.cells #[.int .i64 0, .int .i64 0, .string ⟨#[]⟩] 47)) (i : Int))
  have V0 := hide ((blk_new w #[.int .i64 0, .int .i64 0, .string ⟨#[]⟩] 47).other g 2 (.int .i64 (i : Int)) hBg)
  have G0 := hide (grownBy_set (gby_below (r := some g) (below_al (Below.refl _ w) (.cells #[.int .i64 0, .int .i64 0, .string ⟨#[]⟩] 47))) 2 (.int .i64 (i : Int)))
  rw [set_old _ _ _ _ _ hgl] at HR0 V0 G0
  clear h
  by_cases h4 : i + 4 ≤ s.size
  case neg =>
    have HX : readEntry s i = none := by unfold readEntry; rw [if_pos (by omega)]
    rw [HX]
    simp only [Option.map_none]
    have CS' := hide (fun wx hr => by have := unhide CS wx hr; rw [if_neg h4] at this; exact this)
    clear CS HX
    go_enter Tryz.func43, Tryz.ntmps43
    go_wp2_with fail
    refine (unhide CS' _ (unhide HR0)).mono ?_
    rintro e w1 ⟨hg, rfl, hr⟩
    have HG := hide (grownBy_trans (unhide G0) hg)
    have HR := hide hr
    clear hg hr
    go_wp2
    exact ⟨rfl, unhide HG, rfl, unhide HR⟩
  have CS' := hide (fun wx hr => by have := unhide CS wx hr; rw [if_pos h4] at this; exact this)
  have CT' := hide (fun wx hr => unhide CT wx hr h4)
  have hx4 := svN_lt s i 4
  have HX : readEntry s i = if (getText s.data.toList ((i + 4 : Nat) : Int)).2 < 0 then none
    else match gotRec (getText s.data.toList ((i + 4 : Nat) : Int)).1 with
    | none => none
    | some r => if crc (getText s.data.toList ((i + 4 : Nat) : Int)).1 = svN s i 4 then some (r, (getText s.data.toList ((i + 4 : Nat) : Int)).2) else none := by
    conv => lhs; unfold readEntry
    rw [if_neg (by omega)]
  rw [HX]
  clear HX CS CT
  have htl := getText_len2 s.data.toList ((i + 4 : Nat) : Int)
  obtain ⟨⟨t, j⟩, htj⟩ : ∃ x, getText s.data.toList ((i + 4 : Nat) : Int) = x := ⟨_, rfl⟩
  rw [htj] at CT' htl ⊢
  simp only at CT' htl ⊢
  clear htj
  obtain ⟨x, hx⟩ : ∃ x, svN s i 4 = x := ⟨_, rfl⟩
  rw [hx] at CS' hx4 ⊢
  clear hx
  by_cases hj : j < 0
  · rw [if_pos hj]
    simp only [Option.map_none]
    have CT2 := hide (fun wx hr => by have := unhide CT' wx hr; rw [if_pos hj] at this; exact this)
    clear CT'
    go_enter Tryz.func43, Tryz.ntmps43
    go_wp2_with fail
    refine (unhide CS' _ (unhide HR0)).mono ?_
    rintro e w1 ⟨hg, rfl, hr⟩
    have HG := hide (grownBy_trans (unhide G0) hg)
    have HR := hide hr
    clear hg hr
    go_wp2_with fail
    refine (unhide CT2 _ (unhide HR)).mono ?_
    rintro e w2 ⟨hg, rfl, hr⟩
    have HG2 := hide (grownBy_trans (unhide HG) hg)
    have HR2 := hide hr
    clear hg hr
    go_wp2
    exact ⟨rfl, unhide HG2, rfl, unhide HR2⟩
  rw [if_neg hj]
  have CT2 := hide (fun wx hr => by have := unhide CT' wx hr; rw [if_neg hj] at this; exact this)
  clear CT'
  have CG := hide (fun wx => by have := implGetRec_any (bs t) wx (by rw [bs_size]; omega); rw [show gotRec (bs t).data.toList = gotRec t from rfl] at this; exact this)
  have CC := hide (fun wx (hr : Rd wx g s j i) => by have := sumOf_anyR (P := (.string s, .int .i64 j, .int .i64 i)) g (bs t) wx (by rw [bs_size]; omega) hr; rw [show crc (bs t).data.toList = crc t from rfl] at this; exact this)
  have CF := hide (fun wx (hr : Rd wx g s j i) => fail_any g s j i wx hr)
  have hcl : crc t < 4294967296 := xor_lt32 (crcTo_lt _) (by decide)
  obtain ⟨c, hc⟩ : ∃ c, crc t = c := ⟨_, rfl⟩
  rw [hc] at CC hcl ⊢
  clear hc
  obtain ⟨o, ho⟩ : ∃ o, gotRec t = o := ⟨_, rfl⟩
  rw [ho] at CG ⊢
  clear ho
  cases o with
  | none =>
    simp only [recAns] at CG
    simp only [Option.map_none]
    go_enter Tryz.func43, Tryz.ntmps43
    go_wp2_with fail
    refine (unhide CS' _ (unhide HR0)).mono ?_
    rintro e w1 ⟨hg, rfl, hr⟩
    have HG := hide (grownBy_trans (unhide G0) hg)
    have HR := hide hr
    clear hg hr
    go_wp2_with fail
    refine (unhide CT2 _ (unhide HR)).mono ?_
    rintro e w2 ⟨hg, rfl, hr⟩
    have HG2 := hide (grownBy_trans (unhide HG) hg)
    have HR2 := hide hr
    clear hg hr
    go_wp2_with fail
    refine (unhide CG _).mono ?_
    rintro e w3 ⟨rfl, hb⟩
    have HG3 := hide (grownBy_below (grownBy_below (unhide HG2) hb) (below_al (Below.refl _ _) (.cells #[.int .i64 0, .int .i64 0, .string (bs [])] 47)))
    have HR3 := hide (show Rd _ g s j i from Rd.al (Rd.below (unhide HR2) hb) (.cells #[.int .i64 0, .int .i64 0, .string (bs [])] 47))
    clear hb
    go_wp2_with fail
    refine (unhide CF _ (unhide HR3)).mono ?_
    rintro e w4 ⟨rfl, rfl⟩
    go_wp2
    exact ⟨rfl, unhide HG3, rfl, _, unhide HR3⟩
  | some r =>
    obtain ⟨rk, ra, rq⟩ := r
    simp only [recAns] at CG
    by_cases hcx : c = x
    case neg =>
      simp only [if_neg hcx, Option.map_none]
      have hne : ((c : Int) == (x : Int)) = false := by simp; omega
      have hne2 : ¬ (c : Int) = (x : Int) := by omega
      clear hcx
      go_enter Tryz.func43, Tryz.ntmps43
      go_wp2_with fail
      refine (unhide CS' _ (unhide HR0)).mono ?_
      rintro e w1 ⟨hg, rfl, hr⟩
      have HG := hide (grownBy_trans (unhide G0) hg)
      have HR := hide hr
      clear hg hr
      go_wp2_with fail
      refine (unhide CT2 _ (unhide HR)).mono ?_
      rintro e w2 ⟨hg, rfl, hr⟩
      have HG2 := hide (grownBy_trans (unhide HG) hg)
      have HR2 := hide hr
      clear hg hr
      go_wp2_with fail
      refine (unhide CG _).mono ?_
      rintro e w3 ⟨rfl, hb⟩
      have HG3 := hide (grownBy_below (grownBy_below (unhide HG2) hb) (below_al (Below.refl _ _) (.cells #[.int .i64 rk, .int .i64 ra, .string (bs rq)] 47)))
      have HR3 := hide (show Rd _ g s j i from Rd.al (Rd.below (unhide HR2) hb) (.cells #[.int .i64 rk, .int .i64 ra, .string (bs rq)] 47))
      clear hb
      go_wp2_with fail
      refine (unhide CC _ (unhide HR3)).mono ?_
      rintro e w4 ⟨rfl, hr4, hg4⟩
      have HG4 := hide (grownBy_trans (unhide HG3) hg4)
      have HR4 := hide (show Rd w4 g s j i from hr4)
      clear hr4 hg4
      go_wp2_with fail
      refine (unhide CF _ (unhide HR4)).mono ?_
      rintro e w5 ⟨rfl, rfl⟩
      go_wp2
      exact ⟨rfl, unhide HG4, rfl, _, unhide HR4⟩
    · subst hcx
      simp only [if_true, Option.map_some]
      go_enter Tryz.func43, Tryz.ntmps43
      go_wp2_with fail
      refine (unhide CS' _ (unhide HR0)).mono ?_
      rintro e w1 ⟨hg, rfl, hr⟩
      have HG := hide (grownBy_trans (unhide G0) hg)
      have HR := hide hr
      have V1 := hide ((unhide V0).gby hg hBg)
      clear hg hr
      go_wp2_with fail
      refine (unhide CT2 _ (unhide HR)).mono ?_
      rintro e w2 ⟨hg, rfl, hr⟩
      have HG2 := hide (grownBy_trans (unhide HG) hg)
      have HR2 := hide hr
      have V2 := hide ((unhide V1).gby hg hBg)
      clear hg hr
      go_wp2_with fail
      refine (unhide CG _).mono ?_
      rintro e w3 ⟨rfl, hb⟩
      have HG3 := hide (grownBy_below (grownBy_below (unhide HG2) hb) (below_al (Below.refl _ _) (.cells #[.int .i64 rk, .int .i64 ra, .string (bs rq)] 47)))
      have HR3 := hide (show Rd _ g s j i from Rd.al (Rd.below (unhide HR2) hb) (.cells #[.int .i64 rk, .int .i64 ra, .string (bs rq)] 47))
      have V3 := hide (((unhide V2).below hb).al (.cells #[.int .i64 rk, .int .i64 ra, .string (bs rq)] 47))
      have U3 := hide (blk_new w3 #[.int .i64 rk, .int .i64 ra, .string (bs rq)] 47)
      have hg3 : g < w3.heap.size := (Rd.below (unhide HR2) hb).lt
      clear hb
      go_wp2_with fail
      refine (unhide CC _ (unhide HR3)).mono ?_
      rintro e w4 ⟨rfl, hr4, hg4⟩
      have HG4 := hide (grownBy_trans (unhide HG3) hg4)
      have HR4 := hide (show Rd w4 g s j i from hr4)
      have V4 := hide ((unhide V3).gby hg4 hBg)
      have U4 := hide ((unhide U3).gby hg4 (by omega))
      have u0 := (unhide U4).at 0
      have u1 := (unhide U4).at 1
      have u2 := (unhide U4).at 2
      have v0 := (unhide V4).at 0
      have v1 := (unhide V4).at 1
      have v2 := (unhide V4).at 2
      have f0 := (unhide V4).f 0
      have f1 := (unhide V4).f 1
      have f2 := (unhide V4).f 2
      simp at u0 u1 u2 v0 v1 v2
      clear hr4 hg4
      have hV := ((unhide V4).set 0 (.int .i64 rk)).set 1 (.int .i64 ra)
      have hV2 := hV.set 2 (.string (bs rq))
      simp at hV2
      have x0 := hV2.at 0
      have x1 := hV2.at 1
      have x2 := hV2.at 2
      simp at x0 x1 x2
      have HF := hide (show Rd _ g s j i from Rd.other (Rd.other (Rd.other (unhide HR4) w.heap.size 0 (.int .i64 rk) (Ne.symm hBg)) w.heap.size 1 (.int .i64 ra) (Ne.symm hBg)) w.heap.size 2 (.string (bs rq)) (Ne.symm hBg))
      clear hV hV2
      go_wp2
      refine bodyPost_ret (v := rcv ⟨rk, ra, rq⟩) (by simp [results, Tryz.results43, go_sem, x0, x1, x2]) rfl ⟨?_, rfl, unhide HF⟩
      exact grownBy_new (grownBy_new (grownBy_new (unhide HG4) _ _ _ (Nat.le_refl _)) _ _ _ (Nat.le_refl _)) _ _ _ (Nat.le_refl _)
end Go.Proofs.YtgdndekmkaknlaaGreat

/-
  The closure that Read defers: it recovers what the reader panics with; walks over the dump.
-/
namespace Go.Proofs.YtgdndekmkaknlaaGreat
open Go.RowKit
set_option linter.unusedVariables false
set_option linter.unusedSimpArgs false
set_option maxRecDepth 100000 in
set_option maxHeartbeats 1500000 in
theorem catchR_panicking (g : Nat) (x0 : Int) (bg : Int) (older : List PanicEntry) (w : World) (h1 : Blk w g #[.int .i64 x0] 3) :
    CallsD Tryz.prog 40 #[.pointer (some ⟨g, 0, none⟩)] (.panicking (perr bg :: older)) w fun e u' w' =>
      e = .returned (.tuple #[]) ∧ u' = .panicking ({ perr bg with recovered := true } :: older) ∧ Blk w' g #[.int .i64 bg] 3 ∧ w.grownBy w' (some g) := by
  have H1 := hide h1
  clear h1
  refine callsD_of_wpS Tryz.func40 rfl fun c₀ cs hu => ?_
  apply wpS_seq
  apply wpS_region
  rw [Tryz.ntmps40, show ∀ x : Value, #[x] ++ Array.replicate (11 - #[x].size) undef = #[x, undef, undef, undef, undef, undef, undef, undef, undef, undef, undef] from fun _ => rfl]
  simp only [List.size_toArray, List.length_cons, List.length_nil, Nat.zero_add, Nat.reduceAdd, List.range, List.range.loop]
  refine opsS_rec (w' := w) (d := some 4) rfl rfl rfl (by simp [go_sem]) (v := .iface 75 (.agg #[.int .i64 bg])) (cs' := { c₀ with mode := .panicking ({ perr bg with recovered := true } :: older) } :: cs) (by simp [recoverD, hu]) ?_
  simp only [Act.put, List.setIfInBounds_toArray, List.set_cons_zero, List.set_cons_succ]
  refine opsS_call (w' := w) (f := 41) (args := #[.iface 75 (.agg #[.int .i64 bg])]) (d := some 5) rfl rfl rfl (by simp [go_sem]) (failure_yes bg w) ?_
  rintro e w1 ⟨rfl, hb⟩
  refine ⟨_, rfl, ?_⟩
  have HB := hide hb
  have G1 := hide ((unhide H1).below hb)
  clear hb
  simp only [Act.put, List.setIfInBounds_toArray, List.set_cons_zero, List.set_cons_succ]
  refine opsS_val (v := .tuple #[.agg #[.int .i64 bg], .bool true]) (w' := w1) (d := some 3) rfl rfl rfl (by simp [go_sem]) ?_
  simp only [Act.put, List.setIfInBounds_toArray, List.set_cons_zero, List.set_cons_succ]
  refine opsS_val (v := .agg #[.int .i64 bg]) (w' := w1) (d := some 6) rfl rfl rfl (by simp [go_sem]) ?_
  simp only [Act.put, List.setIfInBounds_toArray, List.set_cons_zero, List.set_cons_succ]
  refine opsS_val (v := .bool true) (w' := w1) (d := some 7) rfl rfl rfl (by simp [go_sem]) ?_
  simp only [Act.put, List.setIfInBounds_toArray, List.set_cons_zero, List.set_cons_succ]
  refine opsS_val (v := .pointer (some ⟨w1.heap.size, 0, none⟩)) (w' := w1.alloc (.cells #[.int .i64 0] 75)) (d := some 1) rfl rfl rfl (by simp [go_sem]) ?_
  simp only [Act.put, List.setIfInBounds_toArray, List.set_cons_zero, List.set_cons_succ]
  refine opsS_skip (w' := w1.alloc (.cells #[.int .i64 bg] 75)) (d := none) rfl rfl rfl (by simp [go_sem]) ?_
  simp only [Act.put, List.setIfInBounds_toArray, List.set_cons_zero, List.set_cons_succ]
  refine opsS_val (v := .bool true) (w' := w1.alloc (.cells #[.int .i64 bg] 75)) (d := some 2) rfl rfl rfl (by simp [go_sem]) ?_
  simp only [Act.put, List.setIfInBounds_toArray, List.set_cons_zero, List.set_cons_succ]
  refine opsS_nil ?_
  refine wpS_of_wp ?_
  have k0 := ((unhide G1).al (.cells #[.int .i64 bg] 75)).at 0
  have f0 := ((unhide G1).al (.cells #[.int .i64 bg] 75)).f 0
  have W1 := hide ((unhide G1).al (.cells #[.int .i64 bg] 75))
  have e0 := (blk_new w1 #[.int .i64 bg] 75).at 0
  have HBL := hide (gby_below (r := some g) (below_al (unhide HB) (.cells #[.int .i64 bg] 75)))
  simp only [List.getElem?_toArray, List.getElem?_cons_succ, List.getElem?_cons_zero] at k0 e0
  obtain ⟨W, hW⟩ : ∃ W, w1.alloc (.cells #[.int .i64 bg] 75) = W := ⟨_, rfl⟩
  rw [hW] at k0 f0 e0 W1 HBL ⊢
  clear hW HB G1 H1
  go_wp2
  refine ⟨rfl, _, rfl, .tuple #[], by simp [results, Tryz.results40, go_sem], rfl, rfl, ?_, grownBy_set (unhide HBL) _ _⟩
  simpa using (unhide W1).set 0 (.int .i64 bg)

set_option maxRecDepth 100000 in
set_option maxHeartbeats 1500000 in
theorem catchR_idle (g : Nat) (x0 : Int) (w : World) (h1 : Blk w g #[.int .i64 x0] 3) :
    CallsD Tryz.prog 40 #[.pointer (some ⟨g, 0, none⟩)] .returning w fun e u' w' =>
      e = .returned (.tuple #[]) ∧ u' = .returning ∧ Below w.heap.size w w' := by
  have H1 := hide h1
  clear h1
  refine callsD_of_wpS Tryz.func40 rfl fun c₀ cs hu => ?_
  apply wpS_seq
  apply wpS_region
  rw [Tryz.ntmps40, show ∀ x : Value, #[x] ++ Array.replicate (11 - #[x].size) undef = #[x, undef, undef, undef, undef, undef, undef, undef, undef, undef, undef] from fun _ => rfl]
  simp only [List.size_toArray, List.length_cons, List.length_nil, Nat.zero_add, Nat.reduceAdd, List.range, List.range.loop]
  refine opsS_rec0 (w' := w) (d := some 4) rfl rfl rfl (by simp [go_sem]) (by simp [recoverD, hu]) ?_
  simp only [Act.put, List.setIfInBounds_toArray, List.set_cons_zero, List.set_cons_succ]
  refine opsS_call (w' := w) (f := 41) (args := #[.nilIface]) (d := some 5) rfl rfl rfl (by simp [go_sem]) (failure_no w) ?_
  rintro e w1 ⟨rfl, hb⟩
  refine ⟨_, rfl, ?_⟩
  have HB := hide hb
  have G1 := hide ((unhide H1).below hb)
  clear hb
  simp only [Act.put, List.setIfInBounds_toArray, List.set_cons_zero, List.set_cons_succ]
  refine opsS_val (v := .tuple #[.agg #[.int .i64 0], .bool false]) (w' := w1) (d := some 3) rfl rfl rfl (by simp [go_sem]) ?_
  simp only [Act.put, List.setIfInBounds_toArray, List.set_cons_zero, List.set_cons_succ]
  refine opsS_val (v := .agg #[.int .i64 0]) (w' := w1) (d := some 6) rfl rfl rfl (by simp [go_sem]) ?_
  simp only [Act.put, List.setIfInBounds_toArray, List.set_cons_zero, List.set_cons_succ]
  refine opsS_val (v := .bool false) (w' := w1) (d := some 7) rfl rfl rfl (by simp [go_sem]) ?_
  simp only [Act.put, List.setIfInBounds_toArray, List.set_cons_zero, List.set_cons_succ]
  refine opsS_val (v := .pointer (some ⟨w1.heap.size, 0, none⟩)) (w' := w1.alloc (.cells #[.int .i64 0] 75)) (d := some 1) rfl rfl rfl (by simp [go_sem]) ?_
  simp only [Act.put, List.setIfInBounds_toArray, List.set_cons_zero, List.set_cons_succ]
  refine opsS_skip (w' := w1.alloc (.cells #[.int .i64 0] 75)) (d := none) rfl rfl rfl (by simp [go_sem]) ?_
  simp only [Act.put, List.setIfInBounds_toArray, List.set_cons_zero, List.set_cons_succ]
  refine opsS_val (v := .bool false) (w' := w1.alloc (.cells #[.int .i64 0] 75)) (d := some 2) rfl rfl rfl (by simp [go_sem]) ?_
  simp only [Act.put, List.setIfInBounds_toArray, List.set_cons_zero, List.set_cons_succ]
  refine opsS_nil ?_
  refine wpS_of_wp ?_
  have HBL := hide (below_al (unhide HB) (.cells #[.int .i64 0] 75))
  go_wp2
  refine ⟨rfl, .returning, ?_, .tuple #[], by simp [results, Tryz.results40, go_sem], rfl, rfl, unhide HBL⟩
  cases c₀
  simp_all
end Go.Proofs.YtgdndekmkaknlaaGreat

/-
  Rows of Rec values: in memory, and rows that a call makes and fills one by one (mkrow.py wrote this).
-/
namespace Go.Proofs.YtgdndekmkaknlaaGreat
open Go.RowKit
set_option linter.unusedVariables false
def RcAt (w : World) (b p : Nat) (q : Rc) : Prop :=
  w.cell? ⟨b, p, none⟩ = some (.int .i64 q.kind) ∧ w.cell? ⟨b, p + 1, none⟩ = some (.int .i64 q.app) ∧ w.cell? ⟨b, p + 2, none⟩ = some (.string (bs q.queue))
def RcRow (w : World) (ao : Option Addr) (len : Nat) (l : List Rc) : Prop :=
  len = l.length ∧ (len = 0 ∨ ∃ b off, ao = some ⟨b, off, none⟩ ∧ ∀ i (h : i < l.length), RcAt w b (off + i * 3) l[i])
theorem RcAt.lt {w : World} {b p : Nat} {q : Rc} (h : RcAt w b p q) : b < w.heap.size := cell_lt h.1
theorem RcAt.below {w w' : World} {b p : Nat} {q : Rc} (h : RcAt w b p q) (hb : Below w.heap.size w w') : RcAt w' b p q :=
  ⟨(hb.cell h.lt).trans h.1, (hb.cell h.lt).trans h.2.1, (hb.cell h.lt).trans h.2.2⟩
theorem RcRow.below {w w' : World} {ao : Option Addr} {len : Nat} {l : List Rc} (h : RcRow w ao len l) (hb : Below w.heap.size w w') : RcRow w' ao len l := by
  obtain ⟨h1, h2⟩ := h
  refine ⟨h1, ?_⟩
  rcases h2 with h2 | ⟨b, off, h3, h4⟩
  · exact .inl h2
  · exact .inr ⟨b, off, h3, fun i h => (h4 i h).below hb⟩
theorem RcRow.nil (w : World) (ao : Option Addr) : RcRow w ao 0 [] := ⟨rfl, .inl rfl⟩
theorem RcRow.at {w : World} {ao : Option Addr} {len : Nat} {l : List Rc} (h : RcRow w ao len l) {i : Nat} (hi : i < len) : ∃ b off, ao = some ⟨b, off, none⟩ ∧ ∀ (h : i < l.length), RcAt w b (off + i * 3) l[i] := by
  obtain ⟨h1, h2⟩ := h
  rcases h2 with h2 | ⟨b, off, h3, h4⟩
  · omega
  · exact ⟨b, off, h3, fun hi => h4 i hi⟩
/-- block g is a row of n, of which the first k are those of l -/
def RcBlk (w : World) (t : TypeId) (g n k : Nat) (l : List Rc) : Prop :=
  ∃ arr : Array Value, w.heap[g]? = some (.cells arr t (0, 0)) ∧ arr.size = n * 3 ∧ ∀ i (h : i < l.length), i < k → arr[i * 3]? = some (.int .i64 l[i].kind) ∧ arr[i * 3 + 1]? = some (.int .i64 l[i].app) ∧ arr[i * 3 + 2]? = some (.string (bs l[i].queue))
theorem RcBlk.lt {w : World} {t : TypeId} {g n k : Nat} {l : List Rc} (h : RcBlk w t g n k l) : g < w.heap.size := let ⟨_, h, _⟩ := h; lt_of_block h
theorem RcBlk.below {w w' : World} {t : TypeId} {g n k : Nat} {l : List Rc} (h : RcBlk w t g n k l) (hb : Below w.heap.size w w') : RcBlk w' t g n k l := by
  have hlt := h.lt
  obtain ⟨arr, h1, h2⟩ := h
  exact ⟨arr, (hb.block g hlt).trans h1, h2⟩
theorem RcBlk.cell {w : World} {t : TypeId} {g n k : Nat} {l : List Rc} (h : RcBlk w t g n k l) {j : Nat} (hj : j < n * 3) : ∃ v, w.cell? ⟨g, j, none⟩ = some v := by
  obtain ⟨arr, h1, h2, _⟩ := h
  exact ⟨arr[j]'(by omega), by simp [World.cell?, h1, Array.getElem?_eq_getElem (show j < arr.size by omega)]⟩
theorem RcBlk.frozen {w : World} {t : TypeId} {g n k : Nat} {l : List Rc} (h : RcBlk w t g n k l) (j : Nat) : w.frozen? ⟨g, j, none⟩ = false := by
  obtain ⟨arr, h1, h2, _⟩ := h
  simp [World.frozen?, h1]
theorem RcBlk.row {w : World} {t : TypeId} {g n : Nat} {l : List Rc} (h : RcBlk w t g n n l) (hl : n = l.length) : RcRow w (some ⟨g, 0, none⟩) n l := by
  obtain ⟨arr, h1, h2, h3⟩ := h
  refine ⟨hl, .inr ⟨g, 0, rfl, fun i hi => ?_⟩⟩
  obtain ⟨a, b, c⟩ := h3 i hi (by omega)
  unfold RcAt
  simp only [Nat.zero_add]
  exact ⟨by simp [World.cell?, h1, a], by simp [World.cell?, h1, b], by simp [World.cell?, h1, c]⟩
/-- one more -/
def putRc (w : World) (g p : Nat) (q : Rc) : World := (((w.setCell ⟨g, p, none⟩ (.int .i64 q.kind)).setCell ⟨g, p + 1, none⟩ (.int .i64 q.app)).setCell ⟨g, p + 2, none⟩ (.string (bs q.queue)))
theorem RcBlk.step {w : World} {t : TypeId} {g n k : Nat} {l : List Rc} (h : RcBlk w t g n k l) (hk : k < n) (hl : k < l.length) : RcBlk (putRc w g (k * 3) l[k]) t g n (k + 1) l := by
  obtain ⟨arr, h1, h2, h3⟩ := h
  have e1 := heap_setCell_same w g (k * 3) _ _ (.int .i64 l[k].kind) h1
  have e2 := heap_setCell_same _ g (k * 3 + 1) _ _ (.int .i64 l[k].app) e1
  have e3 := heap_setCell_same _ g (k * 3 + 2) _ _ (.string (bs l[k].queue)) e2
  refine ⟨_, e3, by simp [h2], fun i hi hik => ?_⟩
  by_cases e : i = k
  · subst e
    have q1 : i * 3 + 2 < arr.size := by omega
    refine ⟨?_, ?_, ?_⟩ <;> simp [Array.getElem?_setIfInBounds, h2] <;> omega
  · obtain ⟨a, b, c⟩ := h3 i hi (by omega)
    refine ⟨?_, ?_, ?_⟩
    · rw [← a]; simp only [Array.getElem?_setIfInBounds]; repeat rw [if_neg (by omega)]
    · rw [← b]; simp only [Array.getElem?_setIfInBounds]; repeat rw [if_neg (by omega)]
    · rw [← c]; simp only [Array.getElem?_setIfInBounds]; repeat rw [if_neg (by omega)]
end Go.Proofs.YtgdndekmkaknlaaGreat

/-
  Lists of records that own their memory(mkown.py wrote this).
-/
namespace Go.Proofs.YtgdndekmkaknlaaGreat
open Go.RowKit
set_option linter.unusedVariables false
abbrev jcell (q : Rc) : List Value := [.int .i64 q.kind, .int .i64 q.app, .string (bs q.queue)]
def jcells : List Rc → List Value
  | [] => []
  | q :: t => jcell q ++ jcells t
theorem jcells_app (a : List Rc) (q : Rc) : jcells (a ++ [q]) = jcells a ++ jcell q := by
  induction a with
  | nil => rfl
  | cons x t ih => rw [List.cons_append, jcells, jcells, ih, List.append_assoc]
theorem jcells_at : ∀ (l : List Rc) (i : Nat) (h : i < l.length), (jcells l)[i * 3]? = some (.int .i64 l[i].kind) ∧ (jcells l)[i * 3 + 1]? = some (.int .i64 l[i].app) ∧ (jcells l)[i * 3 + 2]? = some (.string (bs l[i].queue))
  | q :: t, 0, _ => ⟨rfl, rfl, rfl⟩
  | q :: t, i + 1, h => by
    have e := jcells_at t i (by simpa using h)
    have k : ∀ j, (jcells (q :: t))[(i + 1) * 3 + j]? = (jcells t)[i * 3 + j]? := fun j => by
      rw [jcells, show (i + 1) * 3 + j = (jcell q).length + (i * 3 + j) by simp; omega, List.getElem?_append_right (by omega)]
      congr 1
      omega
    have k0 := k 0
    simp only [Nat.add_zero] at k0
    rw [k0, k 1, k 2]
    simpa using e
/-- v is a list of these records, in memory of its own from block B on -/
def JOwn (B : Nat) (w : World) (v : Value) (l : List Rc) : Prop := w.ownsRow B 47 3 v l.length (jcells l)
theorem jown_nil (B : Nat) (w : World) : JOwn B w (.slice none 0 0) [] := World.ownsRow_nil _ _ _ _
theorem jown_empty (w : World) : w.alloc (.cells #[] 47) |>.ownsRow w.heap.size 47 3 (.slice (some ⟨w.heap.size, 0, none⟩) 0 0) 0 [] :=
  ⟨rfl, .inr ⟨w.heap.size, 0, #[], rfl, Nat.le_refl _, by show (w.heap.push _)[w.heap.size]? = _; simp, Nat.le_refl _, by unfold maxLen; omega, rfl, rfl⟩⟩
theorem jown_below {w w' : World} {B : Nat} {v : Value} {l : List Rc} (h : JOwn B w v l) (hb : Below w.heap.size w w') : JOwn B w' v l :=
  World.ownsRow.kept h (grownBy_below (grownBy_refl w none) hb) (by by_cases e : v.ownBlock = none; exact .inl e; exact .inr e)
theorem jown_base {w : World} {B B' : Nat} {v : Value} {l : List Rc} (h : JOwn B w v l) (hb : B' ≤ B) : JOwn B' w v l := by
  obtain ⟨h1, h2⟩ := h
  refine ⟨h1, ?_⟩
  rcases h2 with h2 | ⟨g, cap, cur, a, b, c⟩
  · exact .inl h2
  · exact .inr ⟨g, cap, cur, a, Nat.le_trans hb b, c⟩
theorem jown_row {w : World} {B : Nat} {v : Value} {l : List Rc} (h : JOwn B w v l) : ∃ ao cap, v = .slice ao l.length cap ∧ RcRow w ao l.length l ∧ l.length ≤ cap ∧ (l ≠ [] → ∃ g cur, ao = some ⟨g, 0, none⟩ ∧ B ≤ g ∧ w.heap[g]? = some (.cells cur 47 (0, 0)) ∧ cur.size = cap * 3) := by
  rcases h.2 with ⟨rfl, h0⟩ | ⟨g, cap, cur, rfl, h1, h2, h3, h4, h5, h6⟩
  · exact ⟨none, 0, by rw [h0], ⟨rfl, .inl h0⟩, by omega, fun hn => absurd (List.length_eq_zero_iff.1 h0) hn⟩
  · refine ⟨some ⟨g, 0, none⟩, cap, rfl, ⟨rfl, .inr ⟨g, 0, rfl, fun i hi => ?_⟩⟩, h3, fun _ => ⟨g, cur, rfl, h1, h2, h5⟩⟩
    obtain ⟨a, b, c⟩ := jcells_at l i hi
    have k : ∀ j (v : Value), j < l.length * 3 → (jcells l)[j]? = some v → w.cell? ⟨g, j, none⟩ = some v := fun j v hj hv => by
      rw [← h6, List.getElem?_take_of_lt hj] at hv
      simp [World.cell?, h2]
      simpa using hv
    unfold RcAt
    rw [Nat.zero_add]
    exact ⟨k _ _ (by omega) a, k _ _ (by omega) b, k _ _ (by omega) c⟩
theorem jown_other {w : World} {B : Nat} {v : Value} {l : List Rc} (h : JOwn B w v l) (k j : Nat) (x : Value) (hk : k < B) : JOwn B (w.setCell ⟨k, j, none⟩ x) v l := by
  obtain ⟨h1, h2⟩ := h
  refine ⟨h1, ?_⟩
  rcases h2 with h2 | ⟨g, cap, cur, a, b, c, d⟩
  · exact .inl h2
  · exact .inr ⟨g, cap, cur, a, b, (heap_setCell_other w ⟨k, j, none⟩ g x (show g ≠ k by omega)).trans c, d⟩
theorem Tryz.infoRec : (Tryz.prog.info? 47).map (fun i => (i.zero, i.size, i.bytes)) = some (some (.agg #[.int .i64 0, .int .i64 0, .string ByteArray.empty]), 3, 32) := by kernel_rfl
end Go.Proofs.YtgdndekmkaknlaaGreat

/-
  A whole log, by the program: Read; a walk over the dump.
-/
namespace Go.Proofs.YtgdndekmkaknlaaGreat
open Go.RowKit
set_option linter.unusedVariables false
set_option linter.unusedSimpArgs false
/-- the records of a log from a byte on, behind those that are gathered; and where the last of them ends -/
def readF (s : ByteArray) : Nat → Nat → List Rc → List Rc × Int
  | 0, i, acc => (acc, i)
  | n + 1, i, acc =>
    if s.size ≤ i then (acc, i)
    else match readEntry s i with
      | none => (acc, i)
      | some (r, j) => readF s n j.toNat (acc ++ [r])
def readV (s : ByteArray) : List Rc × Int := if 60000 < s.size then ([], 0) else readF s (s.size + 1) 0 []
theorem readF_done {s : ByteArray} {n i : Nat} {acc : List Rc} (h : s.size ≤ i) : readF s (n + 1) i acc = (acc, (i : Int)) := by rw [readF, if_pos h]
theorem readF_none {s : ByteArray} {n i : Nat} {acc : List Rc} (h : readEntry s i = none) : readF s (n + 1) i acc = (acc, (i : Int)) := by
  rw [readF]
  split
  · rfl
  · rw [h]
theorem readF_some {s : ByteArray} {n i : Nat} {acc : List Rc} {r : Rc} {j : Int} (h0 : i < s.size) (h : readEntry s i = some (r, j)) : readF s (n + 1) i acc = readF s n j.toNat (acc ++ [r]) := by
  rw [readF, if_neg (by omega), h]
theorem entry_on {s : ByteArray} {i : Nat} {r : Rc} {j : Int} (h : readEntry s i = some (r, j)) : (i : Int) + 5 ≤ j ∧ j ≤ s.size := by
  unfold readEntry at h
  split at h
  · exact absurd h (by simp)
  · split at h
    · exact absurd h (by simp)
    · rename_i h4 h2
      split at h
      · exact absurd h (by simp)
      · rename_i r' hr
        split at h
        · simp only [Option.some.injEq, Prod.mk.injEq] at h
          obtain ⟨rfl, rfl⟩ := h
          have hsp := getText_split _ _ h2
          have hle := getText_pos_le s _ h2
          refine ⟨?_, hle.2⟩
          have h3 := hsp.2.2.1
          have h5 := congrArg List.length h3
          have hpt : 1 ≤ (putText (getText s.data.toList ((i + 4 : Nat) : Int)).1).length := by
            unfold putText
            rw [if_pos hsp.2.1, List.length_append]
            have := put_pos (getText s.data.toList ((i + 4 : Nat) : Int)).1.length
            omega
          rw [List.length_append, List.length_drop, List.length_drop, len_eq] at h5
          omega
        · exact absurd h (by simp)
theorem jown_step {w wr w1 : World} {B : Nat} {v v' : Value} {l : List Rc} {q : Rc} {ob : Obj} (hb : Below B w wr) (hown : JOwn B wr v l)
    (h1 : w1.ownsRow B 47 3 v' (l.length + 1) (jcells l ++ jcell q)) (hg : (wr.alloc ob).grownBy w1 v.ownBlock) (hB : B ≤ wr.heap.size) :
    JOwn B w1 v' (l ++ [q]) ∧ Below B w w1 := by
  refine ⟨?_, (hb.alloc hB ob).grown hg (by simp; omega) ?_⟩
  · unfold JOwn
    rw [jcells_app, List.length_append]
    exact h1
  · intro k hk
    rcases hown.2 with ⟨rfl, _⟩ | ⟨g, cap, cur, rfl, hg', _⟩
    · simp [Value.ownBlock] at hk
    · simp [Value.ownBlock] at hk; omega

def atOf (w : World) (g : Nat) : Nat := (intOf ((w.cell? ⟨g, 1, none⟩).getD undef)).toNat
theorem Rd.atOf {w : World} {g i : Nat} {s : ByteArray} {bg : Int} (h : Rd w g s i bg) : atOf w g = i := by
  have := Rd.at h 1
  simp at this
  unfold Go.Proofs.YtgdndekmkaknlaaGreat.atOf
  rw [this]
  simp [intOf]
theorem jown_gby {w w' : World} {B g : Nat} {v : Value} {l : List Rc} (h : JOwn B w v l) (hg : w.grownBy w' (some g)) (hlt : g < B) : JOwn B w' v l := by
  refine World.ownsRow.kept h hg ?_
  rcases h.2 with ⟨rfl, _⟩ | ⟨g', cap, cur, rfl, hg', _⟩
  · exact .inl rfl
  · right
    simp [Value.ownBlock]
    omega

set_option maxRecDepth 100000 in
set_option maxHeartbeats 4000000 in
theorem implRead_any (s : ByteArray) (w : World) (hs : s.size ≤ 1048576) :
    Calls Tryz.prog 18 #[.string s] w fun e w' => ∃ v, e = .returned (.tuple #[v, .int .i64 (readV s).2]) ∧ JOwn w.heap.size w' v (readV s).1 ∧ Below w.heap.size w w' := by
  have hmf : ∀ (fn : Fn) (first cap : Array Value) (w : World), (Instr.makeFunc fn first cap).run Tryz.prog w = .ok (.func fn first cap) w := fun _ _ _ _ => rfl
  obtain ⟨i0, hi, hz0, hz1, hz2⟩ := info_parts Tryz.infoRec
  have E0 := hide (blk_new w #[.int .i64 0] 3)
  have HB0 := hide (below_al (Below.refl _ w) (.cells #[.int .i64 0] 3))
  by_cases hbig : 60000 < s.size
  · have hv : readV s = ([], 0) := by unfold readV; rw [if_pos hbig]
    rw [hv]
    clear hv
    go_enter_defers Tryz.func18, Tryz.ntmps18
    go_wp2
    refine ⟨.tuple #[.slice none 0 0, .int .i64 0], by simp [results, Tryz.results18, go_sem], .slice none 0 0, rfl, jown_nil _ _, ?_⟩
    repeat (first | exact unhide HB0 | refine below_al ?_ _ | refine Below.drew ?_ | refine below_sc ?_ _ _ _ (by omega))
  have hv : readV s = readF s (s.size + 1) 0 [] := by unfold readV; rw [if_neg hbig]
  rw [hv]
  clear hv
  obtain ⟨X, hX⟩ : ∃ X, readF s (s.size + 1) 0 [] = X := ⟨_, rfl⟩
  rw [hX]
  have HX := hide hX
  clear hX
  have CD := hide (fun (i : Nat) bg wx (hr : Rd wx (w.heap.size + 1) s i bg) => done_any (w.heap.size + 1) s i bg wx hr hs)
  have CE := hide (fun (i : Nat) bg wx (hr : Rd wx (w.heap.size + 1) s i bg) (hi : i ≤ s.size) => nextEntry_any (w.heap.size + 1) s i bg wx hr hs hi)
  have E1 := hide ((unhide E0).al (.cells (rdA s) 93))
  have R1 := hide (Rd.newA (w.alloc (.cells #[.int .i64 0] 3)) s)
  have HB1 := hide (below_al (unhide HB0) (.cells (rdA s) 93))
  simp only [al_size] at R1
  go_enter_defers Tryz.func18, Tryz.ntmps18
  go_upto_region 4 with fail
  refine wp_region_lit ?_
  refine wpList_val (v := .string s) (d := some 9) rfl rfl rfl ?_
  simp only [Act.put, List.setIfInBounds_toArray, List.set_cons_zero, List.set_cons_succ]
  refine wpList_same (v := .agg (rdA s)) (d := some 10) rfl rfl (by refine run_v ?_; simp only [List.map_toArray, List.map_cons, List.map_nil]; exact rd_build s _) ?_
  simp only [Act.put, List.setIfInBounds_toArray, List.set_cons_zero, List.set_cons_succ]
  refine wpList_val (d := some 4) rfl rfl (run_v (rd_alloc _ _)) ?_
  simp only [Act.put, List.setIfInBounds_toArray, List.set_cons_zero, List.set_cons_succ]
  refine wpList_none (d := none) rfl rfl (run_u (rd_store s _)) ?_
  simp only [Act.put, al_size]
  refine wpList_nil ?_
  go_wp2
  go_loopw [2] (fun v wr => ∃ (i n : Nat) (acc : List Rc) (bg : Int), i ≤ s.size ∧ s.size - i < n ∧ acc.length ≤ i ∧ Hid (readF s n i acc = X) ∧ Hid (JOwn (w.heap.size + 2) wr v acc) ∧ Hid (Rd wr (w.heap.size + 1) s i bg) ∧ Hid (Blk wr w.heap.size #[.int .i64 0] 3) ∧ Hid (Below w.heap.size w wr) ∧ w.heap.size + 2 ≤ wr.heap.size) (fun _ wr => s.size - atOf wr (w.heap.size + 1))
  case atStart => exact ⟨0, s.size + 1, [], 0, by omega, by omega, by simp, HX, hide (jown_nil _ _), R1, E1, HB1, by simp⟩
  case round =>
    obtain ⟨i, n, acc, bg, hi1, hn, hac, HF, HO, HR, HE, HB, hsz⟩ := hrel
    obtain ⟨m, rfl⟩ : ∃ m, n = m + 1 := ⟨n - 1, by omega⟩
    have hat := (unhide HR).atOf
    have C1 := hide (unhide CD i bg wr (unhide HR))
    by_cases hd : s.size ≤ i
    · have hdd : decide ((s.size : Int) ≤ (i : Int)) = true := by simp; omega
      rw [hdd] at C1
      have HF2 := hide (show (acc, (i : Int)) = X by rw [← unhide HF, readF_done hd])
      go_wp2_with fail
      refine (unhide C1).mono ?_
      rintro e w1 ⟨rfl, hb⟩
      have HO1 := hide (jown_below (unhide HO) hb)
      have HE1 := hide ((unhide HE).below hb)
      have HB1 := hide (below_on (unhide HB) hb)
      have k1 := (Rd.below (unhide HR) hb).at 1
      have e0 := (unhide HE1).at 0
      have ef := (unhide HE1).f 0
      simp at k1 e0
      clear hb
      go_wp2_with fail
      refine wp_region_noPanic ?_
      go_region_with (fail)
      refine NoPanic.normal ?_
      go_wp2
      have VF := hide (show Blk (w1.setCell ⟨w.heap.size, 0, none⟩ (.int .i64 (i : Int))).drew w.heap.size #[.int .i64 (i : Int)] 3 from Blk.drew (by simpa using (unhide HE1).set 0 (.int .i64 (i : Int))))
      have OF := hide (show JOwn (w.heap.size + 2) (w1.setCell ⟨w.heap.size, 0, none⟩ (.int .i64 (i : Int))).drew u2 acc from jown_below (jown_other (unhide HO1) _ _ _ (by omega)) (Below.refl _ _).drew)
      have HBF := hide (below_sc (unhide HB1) w.heap.size 0 (.int .i64 (i : Int)) (Nat.le_refl _)).drew
      refine leaves_cons (f := 40) (args := #[.pointer (some ⟨w.heap.size, 0, none⟩)]) (by simp) (by simp [go_sem]) ?_
      refine (catchR_idle w.heap.size (i : Int) _ (unhide VF)).mono ?_
      rintro e u' w3 ⟨rfl, rfl, hb⟩
      have h1 := (unhide VF).below hb
      have k0 := h1.at 0
      simp at k0
      have HO3 := hide (jown_below (unhide OF) hb)
      have HB3 := hide (below_on (unhide HBF) hb)
      clear hb h1
      rw [← unhide HF2]
      refine ⟨.tuple #[u2, .int .i64 (i : Int)], ?_, u2, rfl, jown_base (unhide HO3) (by omega), unhide HB3⟩
      simp [results, Tryz.results18, go_sem, k0]
    · have hdd : decide ((s.size : Int) ≤ (i : Int)) = false := by simp; omega
      rw [hdd] at C1
      have C2 := hide (fun wx hr => unhide CE i bg wx hr hi1)
      obtain ⟨x, hx⟩ : ∃ x, readEntry s i = x := ⟨_, rfl⟩
      have C3 := hide (by have := unhide C2; rw [hx] at this; exact this)
      clear C2
      cases x with
      | none =>
        have HF2 := hide (show (acc, (i : Int)) = X by rw [← unhide HF, readF_none hx])
        simp only [Option.map_none] at C3
        clear hx
        go_wp2_with fail
        refine (unhide C1).mono ?_
        rintro e w1 ⟨rfl, hb⟩
        have HR1 := hide (Rd.below (unhide HR) hb)
        have HO1 := hide (jown_below (unhide HO) hb)
        have HE1 := hide ((unhide HE).below hb)
        have HB1 := hide (below_on (unhide HB) hb)
        clear hb
        go_wp2_with fail
        refine (unhide C3 _ (unhide HR1)).mono ?_
        rintro e w2 ⟨hg, rfl, hr⟩
        have HO2 := hide (jown_gby (unhide HO1) hg (by omega))
        have HE2 := hide ((unhide HE1).gby hg (by omega))
        have HB2 := hide ((unhide HB1).grown hg (unhide HB1).size (fun k hk => by cases hk; omega))
        clear hg hr
        go_wp2
        refine leaves_cons (f := 40) (args := #[.pointer (some ⟨w.heap.size, 0, none⟩)]) (by simp) (by simp [go_sem]) ?_
        refine (catchR_panicking w.heap.size 0 (i : Int) [] w2 (unhide HE2)).mono ?_
        rintro e u' w3 ⟨rfl, rfl, h1, hg⟩
        have k0 := h1.at 0
        simp at k0
        have HO3 := hide (jown_gby (unhide HO2) hg (by omega))
        have HB3 := hide ((unhide HB2).grown hg (unhide HB2).size (fun k hk => by cases hk; omega))
        clear hg h1
        rw [← unhide HF2]
        refine ⟨.tuple #[u2, .int .i64 (i : Int)], ?_, u2, rfl, jown_base (unhide HO3) (by omega), unhide HB3⟩
        simp [results, Tryz.results18, go_sem, k0]
      | some y =>
        obtain ⟨⟨rk, ra, rq⟩, j⟩ := y
        obtain ⟨hj1, hj2⟩ := entry_on hx
        have HF2 := hide (show readF s m j.toNat (acc ++ [⟨rk, ra, rq⟩]) = X by rw [← unhide HF, readF_some (by omega) hx])
        simp only [Option.map_some] at C3
        have hjn : (j.toNat : Int) = j := by omega
        clear hx
        go_wp2_with fail
        refine (unhide C1).mono ?_
        rintro e w1 ⟨rfl, hb⟩
        have HR1 := hide (Rd.below (unhide HR) hb)
        have HO1 := hide (jown_below (unhide HO) hb)
        have HE1 := hide ((unhide HE).below hb)
        have HB1 := hide (below_on (unhide HB) hb)
        have hsz1 : w.heap.size + 2 ≤ w1.heap.size := Nat.le_trans hsz hb.size
        clear hb
        go_wp2_with fail
        refine (unhide C3 _ (unhide HR1)).mono ?_
        rintro e w2 ⟨hg, rfl, hr⟩
        have HR2 := hide hr
        have HO2 := hide (jown_gby (unhide HO1) hg (by omega))
        have HE2 := hide ((unhide HE1).gby hg (by omega))
        have HB2 := hide ((unhide HB1).grown hg (unhide HB1).size (fun k hk => by cases hk; omega))
        have hsz2 : w.heap.size + 2 ≤ w2.heap.size := Nat.le_trans hsz1 hg.size
        clear hg hr
        have hown : w2.ownsRow (w.heap.size + 2) 47 3 _ acc.length (jcells acc) := unhide HO2
        go_wp2_with (at_builtin; refine wpList_append_own _ rfl _ _ 42 rfl (w.heap.size + 2) 47 i0 (.agg #[.int .i64 0, .int .i64 0, .string ByteArray.empty]) 3 32 Tryz.underlying42 hi hz0 hz1 hz2 rfl (by decide) _ _ _ rfl (hown.alloc _) ⟨w2.heap.size, 0, none⟩ 1 1 (jcell ⟨rk, ra, rq⟩) rfl rfl ?c1 ?c2 ?c3 ?c4 ?c5 ?_)
        case c1 =>
          intro j x hj
          match j, hj with
          | 0, hj => simp at hj; subst hj; simp [Addr.add]
          | 1, hj => simp at hj; subst hj; simp [Addr.add]
          | 2, hj => simp at hj; subst hj; simp [Addr.add]
          | _ + 3, hj => simp at hj
        case c2 => intro x hx; simp at hx; rcases hx with rfl | rfl | rfl <;> rfl
        case c3 => unfold maxLen; omega
        case c4 => omega
        case c5 => simp at hsz2 ⊢; omega
        intro v' w3 hown' hgrow _
        have R := jown_step (Below.refl (w.heap.size + 2) w2) (unhide HO2) hown' hgrow hsz2
        have HR3 := hide (show Rd w3 (w.heap.size + 1) s j i from (unhide HR2).move (R.2.block _ (by omega)))
        have HE3 := hide (show Blk w3 w.heap.size #[.int .i64 0] 3 from (R.2.block _ (by omega)).trans (unhide HE2))
        have HB3 := hide (Below.trans (unhide HB2) (R.2.mono (by omega)))
        have HO3 := hide R.1
        have hsz3 : w.heap.size + 2 ≤ w3.heap.size := Nat.le_trans hsz2 R.2.size
        have hat3 : atOf w3 (w.heap.size + 1) = j.toNat := by have h := unhide HR3; rw [← hjn] at h; exact h.atOf
        clear hown' hgrow hown R
        go_wp2
        go_roundw
        case rel => exact ⟨j.toNat, m, acc ++ [⟨rk, ra, rq⟩], (i : Int), by omega, by omega, by simp; omega, HF2, HO3, hide (by rw [hjn]; exact unhide HR3), HE3, HB3, hsz3⟩
        case measure => rw [hat3, hat]; omega
end Go.Proofs.YtgdndekmkaknlaaGreat
