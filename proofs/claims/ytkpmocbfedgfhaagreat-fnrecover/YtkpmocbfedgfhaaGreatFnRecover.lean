/-
  The law FnRecover answers true at every slice of bytes, and leaves it as it was: what is recovered of a drawn log is what the model says, it is right, has nothing running, and no number that was done is there unless it was taken on behind that; no condition.
-/
import Derived.Test.YtkpmocbfedgfhaaGreatRows
import Derived.Test.YtkpmocbfedgfhaaGreatPackW
import Derived.WalkKit
import Derived.Deep.CutRange
import Derived.Deep.RegionHeld3
import Derived.Deep.RegionWith
import Derived.Deep.QuietTactic
import Derived.ProofKit
import Derived.OpenShut
import Derived.ShutString
import Derived.ChangeOld
import Derived.Below
namespace Go.Proofs.YtkpmocbfedgfhaaGreat.fnRecover
open Go.ChangeShapes Go.WideShapes Go.ChangeAt Go.RowKit
open Go.ChangeMaps (open_string shut_string)
set_option linter.unusedVariables false

theorem own : ownKnob Tryz.prog.godebug = none := by kernel_rfl
theorem laidOut : laidOutB Tryz.prog = true := by kernel_rfl

set_option maxRecDepth 100000 in
set_option maxHeartbeats 8000000 in
theorem walk (a0 : Option Addr) (len0 cap0 : Nat) (z0 : List Int) (w : World) (w0 : IsRow w a0 len0 cap0 z0) :
    Calls Tryz.prog 3 #[.slice a0 len0 cap0] w fun e w' => e = .returned (.bool true) ∧ Below w.heap.size w w' := by
  have hl := w0.len
  by_cases hbig : len0 ≤ 1048576
  case neg =>
    have hbb : bigB len0 = true := by simp [bigB]; omega
    clear w0
    go_enter Tryz.func3, Tryz.ntmps3
    go_wp2_with fail
    refine (big_any _ _ _ _ hl).mono ?_
    rintro e wb ⟨rfl, rfl⟩
    go_wp2
    go_ret
    exact ⟨rfl, Below.refl _ _⟩
  have HK := hide (code_of w0 hbig)
  have hbb : bigB len0 = false := by simp [bigB]; omega
  clear w0
  go_enter Tryz.func3, Tryz.ntmps3
  go_wp2_with fail
  refine (big_any _ _ _ _ hl).mono ?_
  rintro e wb ⟨rfl, rfl⟩
  go_wp2_with fail
  refine (drawRecover_any _ _ _ _ _ (unhide HK)).mono ?_
  rintro e w1 ⟨qb, n, c, ls, t, rfl, HA⟩
  obtain ⟨hrow, hnc, hnk, hbr, hts, hbel⟩ := unhide HA
  have HROW := hide hrow
  have HB1 := hide hbel
  have hfit : FitQ ls := ⟨by have := hrow.1; omega, fun q hq => by have := hbr q hq; omega⟩
  have HFIT := hide hfit
  have hrl := readV_len t
  have HCUT := hide (readV_cut t (by omega))
  have HFLT := hide (readV_flat t (by omega))
  have CRI := hide (fun wx (hb : Below w1.heap.size w1 wx) => implRecover_any (some ⟨qb, 0, none⟩) n c ls t wx ((unhide HROW).below hb) (by omega) (unhide HFIT) hnc (by omega) hrl)
  have CRS := hide (fun wx (hb : Below w1.heap.size w1 wx) => specRecover_any (some ⟨qb, 0, none⟩) n c ls t wx ((unhide HROW).below hb) (by omega) (unhide HFIT) ⟨_, rfl⟩ (by omega) hrl)
  have CRX := hide (fun (u : ByteArray) wx (hb : Below w1.heap.size w1 wx) (hu : u.size ≤ 400) (he : (readV u).1 = (readV t).1) => by
    have := implRecover_any (some ⟨qb, 0, none⟩) n c ls u wx ((unhide HROW).below hb) (by omega) (unhide HFIT) hnc (by omega) (by rw [he]; exact hrl)
    rw [he] at this
    exact this)
  have CQ := hide (fun wx (hb : Below w1.heap.size w1 wx) => specQueuesOk_any (some ⟨qb, 0, none⟩) n c ls wx ((unhide HROW).below hb) (by omega) (fun q hq => ((unhide HFIT).2 q hq).1))
  have CRD := hide (fun wx => implRead_any t wx (by omega))
  have HFS := hide (show FitSt (recSt ls (readV t).1) by
    unfold recSt
    split
    · exact rinv_fit (rinv_rec hfit _) hfit
    · exact ⟨⟨by simp, by simp⟩, ⟨by simp, by simp⟩, ⟨by simp, by simp⟩, ⟨by simp, by simp⟩⟩)
  obtain ⟨⟨rs, rn⟩, hrv⟩ : ∃ p, readV t = p := ⟨_, rfl⟩
  rw [hrv] at CRI CRS CRX CRD HFS hrl HCUT HFLT
  simp only at CRI CRS CRX CRD HFS hrl HCUT HFLT
  have HREC := hide (fun (hq : queuesOk ls = true) => show recSt ls rs = recV ls rs by rw [recSt, if_pos hq])
  have HINV := hide (rinv_rec hfit rs)
  have HDONE := hide (fun (i : Nat) (hi : i < rs.length) (hk : rs[i].kind = 1) (hn : laterB rs i rs[i].app = false) => done_find (l := ls) hi hk hn)
  obtain ⟨S1, hS1⟩ : ∃ s, recSt ls rs = s := ⟨_, rfl⟩
  obtain ⟨o, ho⟩ : ∃ q, queuesOk ls = q := ⟨_, rfl⟩
  unfold RecAns at CRI CRS CRX
  rw [hS1, ho] at CRI CRS CRX
  rw [hS1] at HFS HREC
  rw [ho] at CQ HREC
  have HO := hide ho
  clear hrow hbr hbel hfit hrv hS1 ho HA HK
  go_wp2_with fail
  refine (unhide CRI _ (Below.refl _ _)).mono ?_
  rintro e w2 ⟨yg, hg, rfl, hh, hb⟩
  have b2 := below_al (Below.refl _ w2) (.cells (svc yg S1) 31)
  have G2 := hide (StB.new hh)
  have X2 := hide (below_on hb b2)
  obtain ⟨gg, hgg⟩ : ∃ g, w2.heap.size = g := ⟨_, rfl⟩
  rw [hgg] at G2
  clear hh hb b2 CRI
  go_wp2_with fail
  refine (unhide CRS _ (unhide X2)).mono ?_
  rintro e w3 ⟨yw, hw, rfl, hh, hb⟩
  have b3 := below_al (Below.refl _ w3) (.cells (svc yw S1) 31)
  have A3 := hide (StB.new hh)
  have G3 := hide (((unhide G2).below hb).below b3)
  have X3 := hide (below_on (below_on (unhide X2) hb) b3)
  obtain ⟨gw, hgw⟩ : ∃ g, w3.heap.size = g := ⟨_, rfl⟩
  rw [hgw] at A3
  clear hh hb b3 CRS G2 X2 hgg
  obtain ⟨u0, u1, u2, u3, u4, u5, u6, u7⟩ := (unhide G3).read
  obtain ⟨v0, v1, v2, v3, v4, v5, v6, v7⟩ := (unhide A3).read
  go_wp2_with fail
  refine (sameState_same yg yw S1 _ (unhide G3).row (unhide A3).row (unhide HFS)).mono ?_
  rintro e w4 ⟨rfl, hb⟩
  have G4 := hide ((unhide G3).below hb)
  have X4 := hide (below_on (unhide X3) hb)
  clear hb G3 A3 X3 hgw u0 u1 u2 u3 u4 u5 u6 u7 v0 v1 v2 v3 v4 v5 v6 v7
  cases o
  case false =>
    go_wp2_with fail
    refine (unhide CQ _ (unhide X4)).mono ?_
    rintro e w5 ⟨rfl, hb⟩
    have HF := hide (below_on (unhide HB1) (below_on (unhide X4) hb))
    clear hb
    go_wp2
    go_ret
    exact ⟨rfl, unhide HF⟩
  have hS1 := unhide HREC (by simp)
  rw [hS1] at HFS G4 CRX
  have INV := unhide HINV
  have hok := rinv_ok INV (unhide HO)
  have hwf := rinv_wf INV
  have he1 := INV.e1
  have CSO := hide (fun (y : Sls) wx (hr : SRow wx y (recV ls rs)) (hc : y.ql ≤ y.qc) => by have := implStateOk_any y (recV ls rs) wx hr (unhide HFS) hc hwf; rw [hok] at this; exact this)
  have CAO := hide (fun (y : Sls) (id : Int) wx (hr : SRow wx y (recV ls rs)) (hi : (Lit.int .i64 id).wf = true) => implAppOf_any y (recV ls rs) id wx hr (unhide HFS) hwf.1 hi)
  have HMS := hide (show (recV ls rs).ms = [] ∧ (recV ls rs).cs = [] from ⟨INV.ms, INV.cs⟩)
  have HAV := hide (fun id (hn : findAp id (recV ls rs).apps = none) => show (appOfV (recV ls rs) id).2 = false by unfold appOfV; rw [hn])
  obtain ⟨SR, hSR⟩ : ∃ s, recV ls rs = s := ⟨_, rfl⟩
  rw [hSR] at HFS G4 CRX CSO CAO HMS HAV HDONE he1
  clear INV hok hwf HINV HREC hS1 hSR CQ HFIT HO
  have HALL := hide (show allOk rs from let ⟨_, _, _, _, h⟩ := unhide HFLT; h)
  obtain ⟨E, hE1, hE2, hE3⟩ := unhide HCUT
  try simp only at hE1 hE3
  subst hE1
  clear HCUT HFLT
  have hex : t.extract 0 E = bs (t.data.toList.take E) := by
    have h5 := extract_pre t 0 E
    rw [Nat.zero_add] at h5
    rw [h5]
    unfold pre
    rw [List.drop_zero]
  have hsl : ∀ wx : World, (Instr.slice 9 (.string t) none (some (.int .i64 (E : Int))) none).run Tryz.prog wx = .ok (.string (bs (t.data.toList.take E))) wx := fun wx => by
    have := run_slice_string_to_if (P := Tryz.prog) wx 9 t .i64 (E : Int) Tryz.underlying9
    rw [this, if_pos (by omega), Int.toNat_natCast, hex]
  have CRY := hide (fun wx (hb : Below w1.heap.size w1 wx) => unhide CRX (bs (t.data.toList.take E)) wx hb (by rw [bs_size, List.length_take]; omega) hE3)
  obtain ⟨u, hu⟩ : ∃ u, bs (t.data.toList.take E) = u := ⟨_, rfl⟩
  rw [hu] at hsl CRY
  clear hex hu hE3 CRX
  go_wp2_with fail
  refine (unhide CRD _).mono ?_
  rintro e w5 ⟨v, rfl, hj, hb⟩
  obtain ⟨jo, jc, rfl, hjr, _, _⟩ := jown_row hj
  have J5 := hide hjr
  have G5 := hide ((unhide G4).below hb)
  have X5 := hide (below_on (unhide X4) hb)
  obtain ⟨jl, hjl⟩ : ∃ n, rs.length = n := ⟨_, rfl⟩
  have HJL := hide hjl
  rw [hjl] at J5 hrl ⊢
  clear hj hjr hb G4 X4 CRD hjl
  go_wp2_with fail
  refine (unhide CRY _ (unhide X5)).mono ?_
  rintro e w6 ⟨ya, hha, rfl, hh, hb⟩
  have b6 := below_al (Below.refl _ w6) (.cells (svc ya SR) 31)
  have A6 := hide (StB.new hh)
  have G6 := hide (((unhide G5).below hb).below b6)
  have J6 := hide (((unhide J5).below hb).below b6)
  have X6 := hide (below_on (below_on (unhide X5) hb) b6)
  obtain ⟨ga, hga⟩ : ∃ g, w6.heap.size = g := ⟨_, rfl⟩
  rw [hga] at A6
  clear hh hb b6 CRY G5 J5 X5 hsl
  obtain ⟨u0, u1, u2, u3, u4, u5, u6, u7⟩ := (unhide G6).read
  obtain ⟨v0, v1, v2, v3, v4, v5, v6, v7⟩ := (unhide A6).read
  go_wp2_with fail
  refine (sameState_same ya yg SR _ (unhide A6).row (unhide G6).row (unhide HFS)).mono ?_
  rintro e w7 ⟨rfl, hb⟩
  have G7 := hide ((unhide G6).below hb)
  have J7 := hide ((unhide J6).below hb)
  have X7 := hide (below_on (unhide X6) hb)
  clear hb G6 J6 X6 A6 hga u0 u1 u2 u3 u4 u5 u6 u7 v0 v1 v2 v3 v4 v5 v6 v7
  obtain ⟨u0, u1, u2, u3, u4, u5, u6, u7⟩ := (unhide G7).read
  go_wp2_with fail
  refine (unhide CSO yg _ (unhide G7).row (unhide G7).cap).mono ?_
  rintro e w8 ⟨rfl, hb⟩
  have G8 := hide ((unhide G7).below hb)
  have J8 := hide ((unhide J7).below hb)
  have X8 := hide (below_on (unhide X7) hb)
  clear hb G7 J7 X7 u0 u1 u2 u3 u4 u5 u6 u7 CSO
  obtain ⟨u0, u1, u2, u3, u4, u5, u6, u7⟩ := (unhide G8).read
  have hcl : yg.cl = 0 := by have := (unhide G8).row.2.2.2.1; rw [(unhide HMS).2] at this; simpa using this
  have hml : yg.ml = 0 := by have := (unhide G8).row.2.2.1.1; rw [(unhide HMS).1] at this; simpa using this
  rw [hcl] at u7
  rw [hml] at u6
  have he1' : ¬ SR.epoch < 1 := by omega
  go_wp2
  clear u0 u1 u2 u3 u4 u5 u6 u7
  go_loopw [13] (fun i wr => ∃ k : Nat, k ≤ jl ∧ i = .int .i64 k ∧ Hid (Below w8.heap.size w8 wr)) (fun i _ => jl - (intOf i).toNat)
  case atStart => exact ⟨0, Nat.zero_le _, rfl, hide (Below.refl _ _)⟩
  case round =>
    obtain ⟨k, hk, rfl, HB⟩ := hrel
    by_cases hlt : k < jl
    · have hkl : k < rs.length := by have := unhide HJL; omega
      have J9 := hide ((unhide J8).below (unhide HB))
      have G9 := hide ((unhide G8).below (unhide HB))
      have HRI := hide (rec_wf (unhide HALL rs[k] (List.getElem_mem hkl)))
      have HDK := hide (unhide HDONE k hkl)
      have HLT := hide (fun wx (hb : Below wr.heap.size wr wx) => later_any jo jl jc rs k hkl wx ((unhide J9).below hb) (by omega))
      obtain ⟨b', off, ejo, hat⟩ := (unhide J9).at hlt
      subst ejo
      obtain ⟨c0, c1, c2⟩ := hat hkl
      have HC1 := hide c1
      obtain ⟨LB, hLB⟩ : ∃ x, laterB rs k rs[k].app = x := ⟨_, rfl⟩
      rw [hLB] at HLT HDK
      obtain ⟨⟨rk, ra, rq⟩, hr⟩ : ∃ r, rs[k] = r := ⟨_, rfl⟩
      rw [hr] at c0 c1 c2 HC1 HRI HDK
      simp only at c0 c1 c2 HC1 HRI HDK
      have k0 : (0 : Int) ≤ k := by omega
      have k1 : (k : Int) < jl := by omega
      clear hat hr hLB hkl
      by_cases hk1 : rk = 1
      · subst hk1
        have CX0 := hide (fun wx (hb : Below wr.heap.size wr wx) => unhide CAO yg ra wx ((unhide G9).row.below hb) (unhide HRI))
        have HTH := hide (fun (hl : LB = false) => unhide HAV ra (unhide HDK rfl hl))
        obtain ⟨⟨⟨ai, aq, aas⟩, th⟩, hth⟩ : ∃ r, appOfV SR ra = r := ⟨_, rfl⟩
        rw [hth] at CX0 HTH
        simp only at CX0 HTH
        have CX := hide (fun wx (hb : Below wr.heap.size wr wx) => (unhide CX0 wx hb).mono (R' := fun e w' => ∃ vo vn vc, e = .returned (.tuple #[.agg #[.int .i64 ai, .string (bs aq), .slice vo vn vc], .bool th]) ∧ Below wr.heap.size wr w' ∧ Below wx.heap.size wx w') (fun e w' ⟨v, he, hx⟩ => by
          obtain ⟨ho, hb2⟩ := unhide hx
          obtain ⟨vo, vc, rfl, _⟩ := aown_has ho
          exact ⟨vo, _, vc, he, below_on hb hb2, hb2⟩))
        clear hth CX0
        go_upto_region 18 with fail
        clear c0 c1 c2
        go_cut [14, 15] from 98 to 107 (fun v14 v15 wx => v15 = .bool th ∧ Kp wr wx)
        case first =>
          refine wp_region_held_drew (S := fun wx => Kp wr wx) (by kernel_rfl) (show Kp wr _ from (Below.refl _ _).drew) (fun S0 => ?_)
          refine takeW 0 99 (sv yg SR) rfl rfl S0 ?_ (hy := Or.inl ⟨by rfl, fun wz hz => run_v (st_load ((unhide G9).below hz).box rfl)⟩)
          try simp only [Act.put, List.setIfInBounds_toArray, List.set_cons_zero, List.set_cons_succ]
          refine takeW 1 100 _ rfl rfl S0 ?_
          try simp only [Act.put, List.setIfInBounds_toArray, List.set_cons_zero, List.set_cons_succ]
          refine takeW 2 101 _ rfl rfl S0 ?_
          try simp only [Act.put, List.setIfInBounds_toArray, List.set_cons_zero, List.set_cons_succ]
          refine takeW 3 102 _ rfl rfl S0 ?_
          try simp only [Act.put, List.setIfInBounds_toArray, List.set_cons_zero, List.set_cons_succ]
          refine takeW 4 103 _ rfl rfl S0 ?_
          try simp only [Act.put, List.setIfInBounds_toArray, List.set_cons_zero, List.set_cons_succ]
          refine takeW 5 104 (.int .i64 ra) rfl rfl S0 ?_ (hy := Or.inl ⟨by rfl, fun wz hz => by (have cz := cellBel (unhide HC1) hz; go_simp)⟩)
          try simp only [Act.put, List.setIfInBounds_toArray, List.set_cons_zero, List.set_cons_succ]
          refine wpAnyH_ready (rs := [6, 10]) (by kernel_rfl) (by simp) (AllReadyH.cons rfl (fun K hK => ?_) (AllReadyH.cons rfl (fun K hK => ?_) AllReadyH.nil))
          · go_simp
            refine (unhide CX _ S0).mono ?_
            rintro e w9 ⟨vo, vn, vc, rfl, hb9, hbx⟩
            have S1 : Kp wr w9 := hb9
            go_wp2_with fail
            refine hK.out _ _ S1 (fun S0 => ?_)
            clear hK K S1
            try simp only [Act.put, List.setIfInBounds_toArray, List.set_cons_zero, List.set_cons_succ]
            refine takeW 7 98 _ rfl rfl S0 ?_
            try simp only [Act.put, List.setIfInBounds_toArray, List.set_cons_zero, List.set_cons_succ]
            refine takeW 8 106 _ rfl rfl S0 ?_
            try simp only [Act.put, List.setIfInBounds_toArray, List.set_cons_zero, List.set_cons_succ]
            refine takeW 9 107 _ rfl rfl S0 ?_
            try simp only [Act.put, List.setIfInBounds_toArray, List.set_cons_zero, List.set_cons_succ]
            refine wpAnyH_ready (rs := [10]) (by kernel_rfl) (by simp) (AllReadyH.cons rfl (fun K hK => ?_) AllReadyH.nil)
            go_wp2_with fail
            refine hK.out _ _ (show Kp wr _ from below_al S0 _) (fun SA => ?_)
            clear hK K
            try simp only [Act.put, List.setIfInBounds_toArray, List.set_cons_zero, List.set_cons_succ]
            have BN := blk_new w9 #[.int .i64 0, .string ⟨#[]⟩, .slice none 0 0] 44
            refine wpAnyH_ready (rs := [11]) (by kernel_rfl) (by simp) (AllReadyH.cons rfl (fun K hK => readyU (by rfl) rfl (run_u (blk_store 44 (arr := #[.int .i64 ai, .string (bs aq), .slice vo vn vc]) BN (by kernel_rfl) rfl (by kernel_rfl))) ?_) AllReadyH.nil)
            refine hK.out _ _ (show Kp wr _ from SA.trans ((mks_row BN #[.int .i64 ai, .string (bs aq), .slice vo vn vc] rfl).below (fun k e => by subst e; exact S0.size) SA.size)) (fun SB => ?_)
            clear hK K SA BN
            try simp only [Act.put]
            refine takeW 12 15 _ rfl rfl SB ?_
            try simp only [Act.put, List.setIfInBounds_toArray, List.set_cons_zero, List.set_cons_succ]
            refine wpAnyH_done (by kernel_rfl) ?_ _
            go_wp2_with fail
            go_meet
            exact ⟨rfl, SB⟩
          · go_wp2_with fail
            have SA : Kp wr (wr.alloc (.cells #[.int .i64 0, .string ⟨#[]⟩, .slice none 0 0] 44)).drew := (below_al (Below.refl _ wr) _).drew
            have BA := hide ((blk_new wr #[.int .i64 0, .string ⟨#[]⟩, .slice none 0 0] 44).below (Below.refl _ _).drew)
            obtain ⟨gA, hgA⟩ : ∃ g, wr.heap.size = g := ⟨_, rfl⟩
            have hgw : wr.heap.size ≤ gA := by omega
            refine hK.out _ _ SA (fun _ => ?_)
            clear hK K
            try simp only [Act.put, List.setIfInBounds_toArray, List.set_cons_zero, List.set_cons_succ]
            generalize (wr.alloc (.cells #[.int .i64 0, .string ⟨#[]⟩, .slice none 0 0] 44)).drew = w10 at SA BA ⊢
            rw [hgA] at BA ⊢
            clear hgA
            refine wpAnyH_ready (rs := [6]) (by kernel_rfl) (by simp) (AllReadyH.cons rfl (fun K hK => ?_) AllReadyH.nil)
            go_simp
            refine (unhide CX _ SA).mono ?_
            rintro e w9 ⟨vo, vn, vc, rfl, hb9, hbx⟩
            have S1 : Kp wr w9 := hb9
            have B9 := (unhide BA).below hbx
            go_wp2_with fail
            refine hK.out _ _ S1 (fun S0 => ?_)
            clear hK K S1
            try simp only [Act.put, List.setIfInBounds_toArray, List.set_cons_zero, List.set_cons_succ]
            refine takeW 7 98 _ rfl rfl S0 ?_
            try simp only [Act.put, List.setIfInBounds_toArray, List.set_cons_zero, List.set_cons_succ]
            refine takeW 8 106 _ rfl rfl S0 ?_
            try simp only [Act.put, List.setIfInBounds_toArray, List.set_cons_zero, List.set_cons_succ]
            refine takeW 9 107 _ rfl rfl S0 ?_
            try simp only [Act.put, List.setIfInBounds_toArray, List.set_cons_zero, List.set_cons_succ]
            refine wpAnyH_ready (rs := [11]) (by kernel_rfl) (by simp) (AllReadyH.cons rfl (fun K hK => readyU (by rfl) rfl (run_u (blk_store 44 (arr := #[.int .i64 ai, .string (bs aq), .slice vo vn vc]) B9 (by kernel_rfl) rfl (by kernel_rfl))) ?_) AllReadyH.nil)
            refine hK.out _ _ (show Kp wr _ from S0.trans ((mks_row B9 #[.int .i64 ai, .string (bs aq), .slice vo vn vc] rfl).below (fun k e => by subst e; exact hgw) S0.size)) (fun SB => ?_)
            clear hK K
            try simp only [Act.put]
            refine takeW 12 15 _ rfl rfl SB ?_
            try simp only [Act.put, List.setIfInBounds_toArray, List.set_cons_zero, List.set_cons_succ]
            refine wpAnyH_done (by kernel_rfl) ?_ _
            go_wp2_with fail
            go_meet
            exact ⟨rfl, SB⟩
        case rest =>
          obtain ⟨rfl, hkp⟩ := hcut
          have HB9 := hide (below_on (unhide HB) hkp)
          have CL := hide (unhide HLT _ hkp)
          clear hkp
          cases th
          · go_wp2
            go_roundw
            case rel => exact ⟨k + 1, by omega, by go_num, HB9⟩
            case measure => simp [intOf]; omega
          · obtain rfl : LB = true := by
              cases LB
              · exact absurd (unhide HTH rfl) (by simp)
              · rfl
            go_wp2_with fail
            refine (unhide CL).mono ?_
            rintro e w9 ⟨rfl, hb⟩
            have HB10 := hide (below_on (unhide HB9) hb)
            clear hb
            go_wp2
            go_roundw
            case rel => exact ⟨k + 1, by omega, by go_num, HB10⟩
            case measure => simp [intOf]; omega
      · have hk1' : (rk == 1) = false := by simpa using hk1
        go_wp2
        go_roundw
        case rel => exact ⟨k + 1, by omega, by go_num, HB⟩
        case measure => simp [intOf]; omega
    · have HF := hide (below_on (unhide HB1) (below_on (unhide X8) (unhide HB)))
      go_wp2
      go_ret
      exact ⟨rfl, unhide HF⟩

set_option maxRecDepth 100000 in
theorem lifted (os : Os) (started : os.Started) (H : Type) (enc : TypeId × Value → H) :
    ReturnsInHanded {} Tryz.checked os 3 .any (Rows.fnRecoverSpec.pre6 enc Tryz.prog Tryz.f3 Rows.fnRecoverRow.domain false) (Rows.fnRecoverSpec.post enc Tryz.prog Tryz.f3 false true false false) := by
  refine returnsInHanded_of_change (C := Tryz.checked) own started (by kernel_rfl) Tryz.func3
    (ChangeSpec.witness6 (enc := enc) (C := Tryz.checked) false ⟨#[], #[.slice none 0 0], []⟩ 8 (by kernel_rfl) (by kernel_rfl) (by kernel_rfl) (by kernel_rfl)) ?_
  intro W base args ds gs before hval0 hW hcnd _
  have hval : ∀ (j : Nat) t v, Tryz.f3.params[j]? = some t → args[j]? = some v → Value.okWide Tryz.prog W .any base t v := hval0
  have hW' := hW
  obtain ⟨p, q, hA0, hV, rfl, hfz, hnd⟩ := hW
  have hA : DataW.TrodAll enc Tryz.prog W 0 (fun _ => true) true Tryz.f3.params.toList args.toList ds p := hA0
  rw [Tryz.params3] at hA hval
  obtain ⟨v0, vs0, d0, ds0, p0, q0, hargs, rfl, rfl, h0, r0⟩ := trodAll_cons hA
  obtain ⟨rfl, rfl, rfl⟩ := trodAll_nil r0
  obtain rfl : args = #[v0] := by cases args; simp_all
  obtain ⟨rfl, rfl⟩ := trodVars_none hV
  obtain ⟨a0, len0, cap0, rfl⟩ := okWide_slice Tryz.underlying22 (hval 0 22 v0 rfl rfl)
  have k0 := h0
  have lt0 : ∀ x ∈ p0, x.block < W.heap.size := by obtain ⟨m, hm⟩ := k0; exact DataW.trod_lt m _ _ _ hm
  obtain ⟨z0, w0⟩ : ∃ zs, IsRow W a0 len0 cap0 zs := by
    obtain ⟨fuel, hf⟩ := h0
    rcases open_ints Tryz.underlying22 Tryz.underlying5 (by kernel_rfl) hf with ⟨hcs, _⟩ | ⟨x, l, c, zs, hcs, _, hl, hm, hz, _, hcell, hwz⟩
    · simp [Value.cells] at hcs
      obtain ⟨rfl, rfl, rfl⟩ := hcs
      exact ⟨[], .inl ⟨rfl, rfl, rfl, rfl⟩⟩
    · simp [Value.cells] at hcs
      obtain ⟨rfl, rfl, rfl⟩ := hcs
      exact ⟨zs, .inr ⟨_, rfl, hl, hm, by simpa using hz, hcell, hwz⟩⟩
  clear hA0 hval0
  refine (walk a0 len0 cap0 z0 W w0).mono fun e W' ⟨he, bel⟩ => ?_
  subst he
  exact ⟨_, rfl, _, _, _, [], _, [], hW', trodAll_mk1 (shut_bool Tryz.underlying4 _), (trodAll_cons_mk (Below.trod laidOut (by kernel_rfl) (of_decide_eq_true (by kernel_rfl)) k0 bel lt0) trodAll_mk0), rfl, bel.frame _, fun h => by cases h⟩

set_option maxRecDepth 100000 in
set_option maxHeartbeats 16000000 in
theorem closed : joinedFacts Tryz.prog 3 Tryz.f3 Rows.fnRecoverSpec Rows.fnRecoverRow = true := by
  unfold joinedFacts
  repeat rw [Bool.and_eq_true]
  repeat' apply And.intro
  all_goals (as_aux_lemma => kernel_rfl)
theorem over : Rows.fnRecoverRow.holds Tryz.pinned (OpenSpec.ofChange Rows.fnRecoverSpec) :=
  OpenClaim.holds_of_wide 3 Tryz.f3 rfl rfl rfl rfl rfl rfl rfl ⟨rfl, rfl, rfl, rfl, rfl⟩ rfl rfl rfl rfl rfl (by kernel_rfl) Tryz.func3 closed
    (of_decide_eq_true (by kernel_rfl)) (by unfold Func.isWrapper; first | (rw [if_pos (by decide +kernel)]; kernel_rfl) | (rw [if_neg (by decide +kernel)]; exact ⟨rfl, rfl⟩))
    (fun os started H enc _ => lifted os started H enc)
end Go.Proofs.YtkpmocbfedgfhaaGreat.fnRecover

namespace Go.Proofs.YtkpmocbfedgfhaaGreat
theorem fnRecover_holds : Rows.FnRecoverSaid := fnRecover.over
#print axioms fnRecover_holds
end Go.Proofs.YtkpmocbfedgfhaaGreat
