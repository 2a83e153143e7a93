/-
  The law FnExactManagerNew answers true at every list of queues: the program's ManagerNew answers as the model's, writes into nothing that it was handed and keeps nothing of it, and its answer owns its memory, behind another call too; no condition.
-/
import Derived.Test.YthnkbdjombiodaaGreatRows
import Derived.Test.YthnkbdjombiodaaGreatPackB
import Derived.Test.YthnkbdjombiodaaGreatMgN
import Derived.WalkKit
import Derived.Deep.CutRange
import Derived.Deep.RegionHeld3
import Derived.Deep.RegionWith
import Derived.Deep.QuietTactic
import Derived.ProofKit
import Derived.OpenShut
import Derived.ShutString
import Derived.ChangeOld
import Derived.Below
namespace Go.Proofs.YthnkbdjombiodaaGreat.fnExactManagerNew
open Go.ChangeShapes Go.WideShapes Go.ChangeAt Go.RowKit
open Go.ChangeMaps (open_string shut_string)
set_option linter.unusedVariables false

theorem own : ownKnob Tryz.prog.godebug = none := by kernel_rfl
theorem laidOut : laidOutB Tryz.prog = true := by kernel_rfl

set_option maxRecDepth 100000 in
set_option maxHeartbeats 8000000 in
theorem walk (a0 : Option Addr) (len0 cap0 : Nat) (l0 : List Q) (w : World) (w0 : QRow w a0 len0 l0) (x0 : len0 ≤ 9223372036854775807) (y0 : ∀ q ∈ l0, QFit q ∧ (Lit.int .i64 q.due).wf = true ∧ (Lit.int .i64 q.most).wf = true) :
    Calls Tryz.prog 3 #[.slice a0 len0 cap0] w fun e w' => e = .returned (.bool true) ∧ Below w.heap.size w w' := by
  have HR := hide w0
  have C0 := hide (szQueueS_any a0 len0 cap0 l0 w w0 x0 (fun q hq => (y0 q hq).1))
  have HLL := hide w0.1
  clear w0 y0 x0
  go_enter Tryz.func3, Tryz.ntmps3
  go_wp2_with fail
  refine (unhide C0).mono ?_
  rintro e w1 ⟨r, rfl, hr, hb⟩
  have HB1 := hide hb
  clear hb C0
  rcases hr with rfl | ⟨hr, hr2, hfit⟩
  · go_wp2
    go_ret
    exact ⟨rfl, unhide HB1⟩
  have hlen : len0 ≤ 1048576 := by have := hfit.1; have := unhide HLL; omega
  have hnn : (qlN l0).length ≤ 1048576 := by
    unfold qlN
    split
    · exact hfit.1
    · simp
  have HFQ := hide (show FitQ (qlN l0) by
    unfold qlN
    split
    · exact hfit
    · exact ⟨by simp, by simp⟩)
  have CS := hide (fun (wx : World) (g : Nat) (h : QBlk wx 46 g len0 len0 l0) => specManagerNew_any (.slice (some ⟨g, 0, none⟩) len0 len0) l0 wx (fun wv hb _ => (specStateNew_any (some ⟨g, 0, none⟩) len0 len0 l0 wv ((h.row (unhide HLL)).below hb) hlen hfit ⟨_, rfl⟩ (fun qo n c wy hr _ => by have := specStateOk_any (newX qo n c) (newSt l0 1 1001 1) wy (new_row 1 1001 1 hr) (new_fit 1 1001 1 hfit); rw [new_ok] at this; exact this)).mono (fun e w' h => h.one)))
  have CI := hide (fun (wx : World) (g : Nat) (h : QBlk wx 46 g len0 len0 l0) => implManagerNew_any (.slice (some ⟨g, 0, none⟩) len0 len0) l0 wx (fun wv hb _ => (implStateNew_any (some ⟨g, 0, none⟩) len0 len0 l0 wv ((h.row (unhide HLL)).below hb) hlen hfit (fun qo n c wy hr hc => by have := implStateOk_any (newX qo n c) (newSt l0 1 1001 1) wy (new_row 1 1001 1 hr) (new_fit 1 1001 1 hfit) hc ⟨by simp, by simp⟩; rw [new_ok] at this; exact this) (Nat.le_refl _)).mono (fun e w' h => h.one)))
  unfold MgAns at CS CI
  have CT := hide (fun (wx : World) (hb : Below w.heap.size w wx) => toQueueS_any a0 len0 cap0 l0 wx ((unhide HR).below hb) hlen)
  have CQ := hide (fun (wx : World) (g k : Nat) (h : QBlk wx 46 g len0 len0 l0) (h' : QBlk wx 46 k len0 len0 l0) => eqQueueS_same (some ⟨g, 0, none⟩) (some ⟨k, 0, none⟩) len0 len0 len0 l0 wx (h.row (unhide HLL)) (h'.row (unhide HLL)) hlen)
  obtain ⟨ql, hql⟩ : ∃ q, qlN l0 = q := ⟨_, rfl⟩
  obtain ⟨ep, hep⟩ : ∃ q, epN l0 = q := ⟨_, rfl⟩
  obtain ⟨nx, hnx⟩ : ∃ q, nxN l0 = q := ⟨_, rfl⟩
  obtain ⟨b, hbo⟩ : ∃ q, queuesOk l0 = q := ⟨_, rfl⟩
  rw [hql, hep, hnx, hbo] at CS CI
  rw [hql] at hnn HFQ
  have CE := hide (fun (wx : World) (qo po : Option Addr) (n c d B B' : Nat) (hn : n = ql.length) (h : QOwn B wx (.slice qo n c) ql) (h' : QOwn B' wx (.slice po n d) ql) => eqManager_same qo po n c d ql ep nx wx (fun wy hb => eqState_same (newX qo n c) (newX po n d) (newSt ql ep nx ep) wy (new_row ep nx ep (by obtain ⟨ao, cc, e, hr, _⟩ := qown_rowx (h.below hb); cases e; rw [hn]; exact hr)) (new_row ep nx ep (by obtain ⟨ao, cc, e, hr, _⟩ := qown_rowx (h'.below hb); cases e; rw [hn]; exact hr)) (new_fit ep nx ep (unhide HFQ))))
  clear hfit hql hep hnx hbo

  go_wp2_with fail
  refine (unhide CT _ (unhide HB1)).mono ?_
  rintro e w2 ⟨rfl, hq, hb⟩
  have HQ := hide hq
  have HB2 := hide (below_on (unhide HB1) hb)
  clear hq hb HB1

  go_wp2_with fail
  refine (unhide CS _ _ (unhide HQ)).mono ?_
  rintro e w3 ⟨wo, n, wc, rfl, hn, how, hb⟩
  have hn2 : n ≤ 1048576 := by omega
  have HN := hide hn
  have z3 : w2.heap.size < w3.heap.size ∨ w2.heap.size ≤ w3.heap.size := .inr hb.size
  have HB3 := hide (below_al (below_on (unhide HB2) hb) (.cells (mgc wo n wc ep nx) 32))
  have BW := hide (blk_new w3 (mgc wo n wc ep nx) 32)
  have LW := hide (fun k hk => (own_lt how k hk).2)
  have OW := hide (how.below (below_al (Below.refl _ w3) (.cells (mgc wo n wc ep nx) 32)))
  obtain ⟨gw, hgw⟩ : ∃ g, w3.heap.size = g := ⟨_, rfl⟩
  have HGW := hide (show w.heap.size ≤ gw by rw [← hgw]; have h1 := (unhide HB2).size; have h2 := hb.size; omega)
  have SW := al_size w3 (.cells (mgc wo n wc ep nx) 32)
  rw [hgw] at BW LW SW
  clear hn how hb HB2 HQ CS z3

  go_wp2_with fail
  refine (unhide CT _ (unhide HB3)).mono ?_
  rintro e w5 ⟨rfl, hq, hb⟩
  have XQ := hide hq
  have HB5 := hide (below_on (unhide HB3) hb)
  have BW5 := hide ((unhide BW).below hb)
  have OW5 := hide ((unhide OW).below hb)
  obtain ⟨g, hg⟩ : ∃ g, (w3.alloc (.cells (mgc wo n wc ep nx) 32)).heap.size = g := ⟨_, rfl⟩
  have hgw2 : gw < g := by omega
  rw [SW] at XQ ⊢
  obtain rfl : g = gw + 1 := by omega
  clear hq hb HB3 BW OW hg hgw SW hgw2

  go_wp2_with fail
  refine (unhide CI _ _ (unhide XQ)).mono ?_
  rintro e w6 ⟨go, m2, gc, rfl, hnm, hog, hb⟩
  have hm2 : n = m2 := by have := unhide HN; omega
  subst hm2
  clear hnm
  have hgx := (unhide XQ).lt
  have LG := hide (fun k hk => own_lt hog k hk)
  have HB6 := hide (below_al (below_on (unhide HB5) hb) (.cells (mgc go n gc ep nx) 32))
  have BG := hide (blk_new w6 (mgc go n gc ep nx) 32)
  have OG := hide (hog.below (below_al (Below.refl _ w6) (.cells (mgc go n gc ep nx) 32)))
  have BW6 := hide (((unhide BW5).below hb).al (.cells (mgc go n gc ep nx) 32))
  have OW6 := hide (((unhide OW5).below hb).below (below_al (Below.refl _ w6) (.cells (mgc go n gc ep nx) 32)))
  have XQ6 := hide (((unhide XQ).below hb).below (below_al (Below.refl _ w6) (.cells (mgc go n gc ep nx) 32)))
  have h56 := hb.size
  obtain ⟨gg, hgg⟩ : ∃ g, w6.heap.size = g := ⟨_, rfl⟩
  rw [hgg] at BG LG h56
  clear hog hb HB5 BW5 OW5 XQ
  have HN6 := HN
  have hwg : w.heap.size ≤ gw := unhide HGW
  obtain ⟨u0, u1, u2, u3, u4, u5, u6, u7, u8, u9, u10⟩ : _ ∧ _ ∧ _ ∧ _ ∧ _ ∧ _ ∧ _ ∧ _ ∧ _ ∧ _ ∧ _ := ⟨(unhide BG).at 0, (unhide BG).at 1, (unhide BG).at 2, (unhide BG).at 3, (unhide BG).at 4, (unhide BG).at 5, (unhide BG).at 6, (unhide BG).at 7, (unhide BG).at 8, (unhide BG).at 9, (unhide BG).at 10⟩
  simp at u0 u1 u2 u3 u4 u5 u6 u7 u8 u9 u10
  obtain ⟨v0, v1, v2, v3, v4, v5, v6, v7, v8, v9, v10⟩ : _ ∧ _ ∧ _ ∧ _ ∧ _ ∧ _ ∧ _ ∧ _ ∧ _ ∧ _ ∧ _ := ⟨(unhide BW6).at 0, (unhide BW6).at 1, (unhide BW6).at 2, (unhide BW6).at 3, (unhide BW6).at 4, (unhide BW6).at 5, (unhide BW6).at 6, (unhide BW6).at 7, (unhide BW6).at 8, (unhide BW6).at 9, (unhide BW6).at 10⟩
  simp at v0 v1 v2 v3 v4 v5 v6 v7 v8 v9 v10
  go_wp2_with fail
  refine (unhide CE _ go wo _ gc wc _ _ (unhide HN6) (unhide OG) (unhide OW6)).mono ?_
  rintro e w7 ⟨rfl, hb⟩
  have BG7 := hide ((unhide BG).below hb)
  have BW7 := hide ((unhide BW6).below hb)
  have OG7 := hide ((unhide OG).below hb)
  have OW7 := hide ((unhide OW6).below hb)
  have XQ7 := hide ((unhide XQ6).below hb)
  have HB7 := hide (below_on (unhide HB6) hb)
  clear hb BG BW6 OG OW6 XQ6 HB6 u0 v0 u1 v1 u2 v2 u3 v3 u4 v4 u5 v5 u6 v6 u7 v7 u8 v8 u9 v9 u10 v10
  go_wp2_with fail
  refine (unhide CT _ (unhide HB7)).mono ?_
  rintro e w8 ⟨rfl, hq, hb⟩
  have BG8 := hide ((unhide BG7).below hb)
  have BW8 := hide ((unhide BW7).below hb)
  have OG8 := hide ((unhide OG7).below hb)
  have OW8 := hide ((unhide OW7).below hb)
  have XQ8 := hide ((unhide XQ7).below hb)
  have YQ8 := hide hq
  have HB8 := hide (below_on (unhide HB7) hb)
  clear hb hq BG7 BW7 OG7 OW7 XQ7 HB7
  go_wp2_with fail
  refine (unhide CQ _ _ _ (unhide XQ8) (unhide YQ8)).mono ?_
  rintro e w9 ⟨rfl, hb⟩
  have BG9 := hide ((unhide BG8).below hb)
  have BW9 := hide ((unhide BW8).below hb)
  have OG9 := hide ((unhide OG8).below hb)
  have OW9 := hide ((unhide OW8).below hb)
  have XQ9 := hide ((unhide XQ8).below hb)
  have HB9 := hide (below_on (unhide HB8) hb)
  clear hb BG8 BW8 OG8 OW8 XQ8 YQ8 HB8 CQ
  go_wp2_with fail
  refine (markQueueS_any (gw + 1) len0 _ (unhide XQ9).any hlen).mono ?_
  rintro e w10 ⟨rfl, hg⟩
  have BG10 := hide (show Blk w10 gg _ 32 from (hg.block _ (unhide BG9).lt (by simp; omega)).trans (unhide BG9))
  have BW10 := hide (show Blk w10 gw _ 32 from (hg.block _ (unhide BW9).lt (by simp)).trans (unhide BW9))
  have OG10 := hide (show QOwn _ w10 (.slice go n gc) ql from (unhide OG9).kept hg (.inr (fun e => by have := (unhide LG _ e).1; omega)))
  have OW10 := hide (show QOwn _ w10 (.slice wo n wc) ql from (unhide OW9).kept hg (.inr (fun e => by have := unhide LW _ e; omega)))
  have HB10 := hide ((unhide HB9).grown hg (unhide HB9).size (fun k e => by cases e; omega))
  clear hg BG9 BW9 OG9 OW9 XQ9 HB9
  have hk1 : ¬ (1 + 4 * (len0 : Int)) < 0 := by omega
  obtain ⟨u0, u1, u2, u3, u4, u5, u6, u7, u8, u9, u10⟩ : _ ∧ _ ∧ _ ∧ _ ∧ _ ∧ _ ∧ _ ∧ _ ∧ _ ∧ _ ∧ _ := ⟨(unhide BG10).at 0, (unhide BG10).at 1, (unhide BG10).at 2, (unhide BG10).at 3, (unhide BG10).at 4, (unhide BG10).at 5, (unhide BG10).at 6, (unhide BG10).at 7, (unhide BG10).at 8, (unhide BG10).at 9, (unhide BG10).at 10⟩
  simp at u0 u1 u2 u3 u4 u5 u6 u7 u8 u9 u10
  obtain ⟨v0, v1, v2, v3, v4, v5, v6, v7, v8, v9, v10⟩ : _ ∧ _ ∧ _ ∧ _ ∧ _ ∧ _ ∧ _ ∧ _ ∧ _ ∧ _ ∧ _ := ⟨(unhide BW10).at 0, (unhide BW10).at 1, (unhide BW10).at 2, (unhide BW10).at 3, (unhide BW10).at 4, (unhide BW10).at 5, (unhide BW10).at 6, (unhide BW10).at 7, (unhide BW10).at 8, (unhide BW10).at 9, (unhide BW10).at 10⟩
  simp at v0 v1 v2 v3 v4 v5 v6 v7 v8 v9 v10
  go_wp2_with fail
  refine (unhide CE _ go wo _ gc wc _ _ (unhide HN6) (unhide OG10) (unhide OW10)).mono ?_
  rintro e w11 ⟨rfl, hb⟩
  have BG11 := hide ((unhide BG10).below hb)
  have BW11 := hide ((unhide BW10).below hb)
  have OG11 := hide ((unhide OG10).below hb)
  have OW11 := hide ((unhide OW10).below hb)
  have HB11 := hide (below_on (unhide HB10) hb)
  clear hb BG10 BW10 OG10 OW10 HB10 u0 v0 u1 v1 u2 v2 u3 v3 u4 v4 u5 v5 u6 v6 u7 v7 u8 v8 u9 v9 u10 v10
  obtain ⟨u0, u1, u2, u3, u4, u5, u6, u7, u8, u9, u10⟩ : _ ∧ _ ∧ _ ∧ _ ∧ _ ∧ _ ∧ _ ∧ _ ∧ _ ∧ _ ∧ _ := ⟨(unhide BG11).at 0, (unhide BG11).at 1, (unhide BG11).at 2, (unhide BG11).at 3, (unhide BG11).at 4, (unhide BG11).at 5, (unhide BG11).at 6, (unhide BG11).at 7, (unhide BG11).at 8, (unhide BG11).at 9, (unhide BG11).at 10⟩
  simp at u0 u1 u2 u3 u4 u5 u6 u7 u8 u9 u10
  go_wp2_with fail
  refine (markMg_own ep nx (unhide OG11) (unhide HN6) hn2).mono ?_
  rintro e w12 ⟨rfl, hm, hg⟩
  have BG12 := hide (show Blk w12 gg _ 32 from (hg.block _ (unhide BG11).lt (fun e => by have := (unhide LG _ e.symm).2; omega)).trans (unhide BG11))
  have BW12 := hide (show Blk w12 gw _ 32 from (hg.block _ (unhide BW11).lt (fun e => by have := (unhide LG _ e.symm).1; omega)).trans (unhide BW11))
  have OW12 := hide (show QOwn _ w12 (.slice wo n wc) ql from (unhide OW11).kept hg (by
    cases hk : (Value.slice wo n wc).ownBlock with
    | none => exact .inl rfl
    | some k => exact .inr (fun e => by have h1 := unhide LW _ hk; have h2 := (unhide LG _ e.symm).1; omega)))
  have MG := hide hm
  have HB12 := hide ((unhide HB11).grown hg (unhide HB11).size (fun k e => by have := (unhide LG _ e).1; omega))
  clear hg hm BG11 BW11 OG11 OW11 HB11 u0 u1 u2 u3 u4 u5 u6 u7 u8 u9 u10
  obtain ⟨u0, u1, u2, u3, u4, u5, u6, u7, u8, u9, u10⟩ : _ ∧ _ ∧ _ ∧ _ ∧ _ ∧ _ ∧ _ ∧ _ ∧ _ ∧ _ ∧ _ := ⟨(unhide BG12).at 0, (unhide BG12).at 1, (unhide BG12).at 2, (unhide BG12).at 3, (unhide BG12).at 4, (unhide BG12).at 5, (unhide BG12).at 6, (unhide BG12).at 7, (unhide BG12).at 8, (unhide BG12).at 9, (unhide BG12).at 10⟩
  simp at u0 u1 u2 u3 u4 u5 u6 u7 u8 u9 u10
  go_wp2_with fail
  refine (heldMg_own ql ep nx (unhide MG) hn2).mono ?_
  rintro e w13 ⟨rfl, hb⟩
  have BG13 := hide ((unhide BG12).below hb)
  have BW13 := hide ((unhide BW12).below hb)
  have OW13 := hide ((unhide OW12).below hb)
  have MG13 := hide ((unhide MG).below hb)
  have HB13 := hide (below_on (unhide HB12) hb)
  have hk2 : ¬ (1 + 4 * (n : Int)) < 0 := by omega
  clear hb BG12 BW12 OW12 MG HB12 u0 u1 u2 u3 u4 u5 u6 u7 u8 u9 u10
  go_wp2_with fail
  refine (unhide CT _ (unhide HB13)).mono ?_
  rintro e w14 ⟨rfl, hq, hb⟩
  have BG14 := hide ((unhide BG13).below hb)
  have BW14 := hide ((unhide BW13).below hb)
  have OW14 := hide ((unhide OW13).below hb)
  have MG14 := hide ((unhide MG13).below hb)
  have YQ14 := hide hq
  have HB14 := hide (below_on (unhide HB13) hb)
  clear hb hq BG13 BW13 OW13 MG13 HB13
  go_wp2_with fail
  refine (unhide CI _ _ (unhide YQ14)).mono ?_
  rintro e w15 ⟨ho, m3, hc, rfl, hm3, hoh, hb⟩
  obtain rfl : n = m3 := by have := unhide HN6; omega
  have BG15 := hide (((unhide BG14).below hb).al (.cells (mgc ho n hc ep nx) 32))
  have BW15 := hide (((unhide BW14).below hb).al (.cells (mgc ho n hc ep nx) 32))
  have OW15 := hide (((unhide OW14).below hb).below (below_al (Below.refl _ w15) (.cells (mgc ho n hc ep nx) 32)))
  have MG15 := hide (((unhide MG14).below hb).below (below_al (Below.refl _ w15) (.cells (mgc ho n hc ep nx) 32)))
  have OH15 := hide (hoh.below (below_al (Below.refl _ w15) (.cells (mgc ho n hc ep nx) 32)))
  have BH15 := hide (blk_new w15 (mgc ho n hc ep nx) 32)
  have HB15 := hide (below_al (below_on (unhide HB14) hb) (.cells (mgc ho n hc ep nx) 32))
  clear hb hm3 hoh BG14 BW14 OW14 MG14 YQ14 HB14 CI CT
  obtain ⟨u0, u1, u2, u3, u4, u5, u6, u7, u8, u9, u10⟩ : _ ∧ _ ∧ _ ∧ _ ∧ _ ∧ _ ∧ _ ∧ _ ∧ _ ∧ _ ∧ _ := ⟨(unhide BH15).at 0, (unhide BH15).at 1, (unhide BH15).at 2, (unhide BH15).at 3, (unhide BH15).at 4, (unhide BH15).at 5, (unhide BH15).at 6, (unhide BH15).at 7, (unhide BH15).at 8, (unhide BH15).at 9, (unhide BH15).at 10⟩
  simp at u0 u1 u2 u3 u4 u5 u6 u7 u8 u9 u10
  obtain ⟨v0, v1, v2, v3, v4, v5, v6, v7, v8, v9, v10⟩ : _ ∧ _ ∧ _ ∧ _ ∧ _ ∧ _ ∧ _ ∧ _ ∧ _ ∧ _ ∧ _ := ⟨(unhide BW15).at 0, (unhide BW15).at 1, (unhide BW15).at 2, (unhide BW15).at 3, (unhide BW15).at 4, (unhide BW15).at 5, (unhide BW15).at 6, (unhide BW15).at 7, (unhide BW15).at 8, (unhide BW15).at 9, (unhide BW15).at 10⟩
  simp at v0 v1 v2 v3 v4 v5 v6 v7 v8 v9 v10
  go_wp2_with fail
  refine (unhide CE _ ho wo _ hc wc _ _ (unhide HN6) (unhide OH15) (unhide OW15)).mono ?_
  rintro e w16 ⟨rfl, hb⟩
  have BG16 := hide ((unhide BG15).below hb)
  have MG16 := hide ((unhide MG15).below hb)
  have HB16 := hide (below_on (unhide HB15) hb)
  clear hb BG15 BW15 OW15 MG15 OH15 BH15 HB15 u0 v0 u1 v1 u2 v2 u3 v3 u4 v4 u5 v5 u6 v6 u7 v7 u8 v8 u9 v9 u10 v10
  obtain ⟨u0, u1, u2, u3, u4, u5, u6, u7, u8, u9, u10⟩ : _ ∧ _ ∧ _ ∧ _ ∧ _ ∧ _ ∧ _ ∧ _ ∧ _ ∧ _ ∧ _ := ⟨(unhide BG16).at 0, (unhide BG16).at 1, (unhide BG16).at 2, (unhide BG16).at 3, (unhide BG16).at 4, (unhide BG16).at 5, (unhide BG16).at 6, (unhide BG16).at 7, (unhide BG16).at 8, (unhide BG16).at 9, (unhide BG16).at 10⟩
  simp at u0 u1 u2 u3 u4 u5 u6 u7 u8 u9 u10
  go_wp2_with fail
  refine (heldMg_own ql ep nx (unhide MG16) hn2).mono ?_
  rintro e w17 ⟨rfl, hb⟩
  have HB17 := hide (below_on (unhide HB16) hb)
  clear hb BG16 MG16 HB16 u0 u1 u2 u3 u4 u5 u6 u7 u8 u9 u10
  go_wp2
  go_ret
  exact ⟨rfl, unhide HB17⟩

set_option maxRecDepth 100000 in
theorem lifted (os : Os) (started : os.Started) (H : Type) (enc : TypeId × Value → H) :
    ReturnsInHanded {} Tryz.checked os 3 .any (Rows.fnExactManagerNewSpec.pre6 enc Tryz.prog Tryz.f3 Rows.fnExactManagerNewRow.domain false) (Rows.fnExactManagerNewSpec.post enc Tryz.prog Tryz.f3 false true false false) := by
  refine returnsInHanded_of_change (C := Tryz.checked) own started (by kernel_rfl) Tryz.func3
    (ChangeSpec.witness6 (enc := enc) (C := Tryz.checked) false ⟨#[], #[.slice none 0 0], []⟩ 8 (by kernel_rfl) (by kernel_rfl) (by kernel_rfl) (by kernel_rfl)) ?_
  intro W base args ds gs before hval0 hW hcnd _
  have hval : ∀ (j : Nat) t v, Tryz.f3.params[j]? = some t → args[j]? = some v → Value.okWide Tryz.prog W .any base t v := hval0
  have hW' := hW
  obtain ⟨p, q, hA0, hV, rfl, hfz, hnd⟩ := hW
  have hA : DataW.TrodAll enc Tryz.prog W 0 (fun _ => true) true Tryz.f3.params.toList args.toList ds p := hA0
  rw [Tryz.params3] at hA hval
  obtain ⟨v0, vs0, d0, ds0, p0, q0, hargs, rfl, rfl, h0, r0⟩ := trodAll_cons hA
  obtain ⟨rfl, rfl, rfl⟩ := trodAll_nil r0
  obtain rfl : args = #[v0] := by cases args; simp_all
  obtain ⟨rfl, rfl⟩ := trodVars_none hV
  obtain ⟨a0, len0, cap0, rfl⟩ := okWide_slice Tryz.underlying22 (hval 0 22 v0 rfl rfl)
  have k0 := h0
  have lt0 : ∀ x ∈ p0, x.block < W.heap.size := by obtain ⟨m, hm⟩ := k0; exact DataW.trod_lt m _ _ _ hm
  obtain ⟨l0, w0, x0, y0⟩ := open_queues h0
  clear hA0 hval0
  refine (walk a0 len0 cap0 l0 W w0 x0 y0).mono fun e W' ⟨he, bel⟩ => ?_
  subst he
  exact ⟨_, rfl, _, _, _, [], _, [], hW', trodAll_mk1 (shut_bool Tryz.underlying4 _), (trodAll_cons_mk (Below.trod laidOut (by kernel_rfl) (of_decide_eq_true (by kernel_rfl)) k0 bel lt0) trodAll_mk0), rfl, bel.frame _, fun h => by cases h⟩

theorem over : Rows.fnExactManagerNewRow.holds Tryz.pinned (OpenSpec.ofChange Rows.fnExactManagerNewSpec) :=
  OpenClaim.holds_of_wide 3 Tryz.f3 rfl rfl rfl rfl rfl rfl rfl ⟨rfl, rfl, rfl, rfl, rfl⟩ rfl rfl rfl rfl rfl (by kernel_rfl) Tryz.func3 (by kernel_rfl)
    (of_decide_eq_true (by kernel_rfl)) (by unfold Func.isWrapper; first | (rw [if_pos (by decide +kernel)]; kernel_rfl) | (rw [if_neg (by decide +kernel)]; exact ⟨rfl, rfl⟩))
    (fun os started H enc _ => lifted os started H enc)
end Go.Proofs.YthnkbdjombiodaaGreat.fnExactManagerNew

namespace Go.Proofs.YthnkbdjombiodaaGreat
theorem fnExactManagerNew_holds : Rows.FnExactManagerNewSaid := fnExactManagerNew.over
#print axioms fnExactManagerNew_holds
end Go.Proofs.YthnkbdjombiodaaGreat
