/-
  The law FnTake answers true at every slice of bytes, and leaves it as it was: what is taken back, dropped and lost of a drawn state is what the model says, it is gone, and nothing else is; what is left of a right state is right; no condition.
-/
import Derived.Test.YtbkchepelhkjlaaGreatRows
import Derived.Test.YtbkchepelhkjlaaGreatPackU
import Derived.Test.YtbkchepelhkjlaaGreatPackV
import Derived.Test.YtbkchepelhkjlaaGreatPackW
import Derived.Test.YtbkchepelhkjlaaGreatTakE
import Derived.Test.YtbkchepelhkjlaaGreatTakGD
import Derived.Test.YtbkchepelhkjlaaGreatTakGL
import Derived.Test.YtbkchepelhkjlaaGreatTakS
import Derived.Test.YtbkchepelhkjlaaGreatPackR
import Derived.Test.YtbkchepelhkjlaaGreatCode
import Derived.Test.YtbkchepelhkjlaaGreatPackJ
import Derived.WalkKit
import Derived.Deep.CutRange
import Derived.Deep.RegionHeld3
import Derived.Deep.RegionWith
import Derived.Deep.QuietTactic
import Derived.ProofKit
import Derived.OpenShut
import Derived.ShutString
import Derived.ChangeOld
import Derived.Below
namespace Go.Proofs.YtbkchepelhkjlaaGreat.fnTake
open Go.ChangeShapes Go.WideShapes Go.ChangeAt Go.RowKit
open Go.ChangeMaps (open_string shut_string)
set_option linter.unusedVariables false

theorem own : ownKnob Tryz.prog.godebug = none := by kernel_rfl
theorem laidOut : laidOutB Tryz.prog = true := by kernel_rfl

set_option maxRecDepth 100000 in
set_option maxHeartbeats 8000000 in
theorem walk (a0 : Option Addr) (len0 cap0 : Nat) (z0 : List Int) (w : World) (w0 : IsRow w a0 len0 cap0 z0) :
    Calls Tryz.prog 4 #[.slice a0 len0 cap0] w fun e w' => e = .returned (.bool true) ∧ Below w.heap.size w w' := by
  have hl := w0.len
  by_cases hbig : len0 ≤ 1048576
  case neg =>
    have hbb : bigB len0 = true := by simp [bigB]; omega
    clear w0
    go_enter Tryz.func4, Tryz.ntmps4
    go_wp2_with fail
    refine (big_any _ _ _ _ hl).mono ?_
    rintro e wb ⟨rfl, rfl⟩
    go_wp2
    go_ret
    exact ⟨rfl, Below.refl _ _⟩
  have HK := hide (code_of w0 hbig)
  have hbb : bigB len0 = false := by simp [bigB]; omega
  clear w0
  go_enter Tryz.func4, Tryz.ntmps4
  go_wp2_with fail
  refine (big_any _ _ _ _ hl).mono ?_
  rintro e wb ⟨rfl, rfl⟩
  have BW := hide (Below.refl w.heap.size w)
  go_wp2_with fail
  refine (drawTakeBack_any w.heap.size _ _ _ _ ((unhide HK).below (unhide BW) (Nat.le_refl _))).mono ?_
  rintro e w3 ⟨ya, sa, hsa, io, il, ic, ids, rfl, hD, hI, hil, hb⟩
  replace BW := hide (below_on (unhide BW) (unhide hb))
  have D3 := hD
  have I3 := hI
  clear hI
  clear hD hb
  have bb := below_al (Below.refl _ w3) (.cells (svc ya sa) 29)
  have X3 := hide (blk_new w3 (svc ya sa) 29)
  replace BW := hide (below_on (unhide BW) (bb))
  replace D3 := hide ((unhide D3).below (bb))
  replace I3 := hide ((unhide I3).below (bb))
  obtain ⟨b3, hb3⟩ : ∃ g, w3.heap.size = g := ⟨_, rfl⟩
  rw [hb3] at X3
  clear bb
  have fita := (unhide D3).fit
  have wfa := (unhide D3).wf
  have FTa := hide (take_fit fita wfa ids).1
  have WTa := hide (take_fit fita wfa ids).2
  have HGa := hide (take_glen fita ids)
  have OKa := hide (fun h => take_ok (s := sa) h ids)
  have LNa := hide (fun h => take_len (s := sa) h ids)
  have GOa := hide (fun h => take_gone (s := sa) h ids)
  have SOa := hide (fun wx (D : DrU wx ya sa hsa) => specStateOk_any ya sa wx D.row D.fit)
  have CIa := hide (fun wx (D : DrU wx ya sa hsa) (I : IRow wx io il ids) => implTakeBack_any ya sa io il ic ids wx D.row D.fit D.cap D.wf I (by omega))
  have CSa := hide (fun wx (D : DrU wx ya sa hsa) (I : IRow wx io il ids) => specTakeBack_any ya sa hsa io il ic ids wx D.row D.av D.hd D.sm D.fit I (by omega))
  obtain ⟨⟨Ta, Ga⟩, hTa⟩ : ∃ p, takeV sa ids = p := ⟨_, rfl⟩
  rw [hTa] at FTa WTa CIa CSa HGa OKa LNa GOa
  simp only at FTa WTa CIa CSa HGa OKa LNa GOa
  clear hTa
  obtain ⟨oa, hoa⟩ : ∃ q, stateOkV sa = q := ⟨_, rfl⟩
  rw [hoa] at OKa LNa GOa SOa
  clear hoa
  have u0 := (unhide X3).at 0; have u1 := (unhide X3).at 1; have u2 := (unhide X3).at 2; have u3 := (unhide X3).at 3; have u4 := (unhide X3).at 4; have u5 := (unhide X3).at 5; have u6 := (unhide X3).at 6; have u7 := (unhide X3).at 7
  simp at u0 u1 u2 u3 u4 u5 u6 u7
  go_wp2_with fail
  clear hb3
  refine (unhide CIa _ (unhide D3) (unhide I3)).mono ?_
  rintro e w5 ⟨y5, hs5, go5, gn5, gc5, rfl, hA, hC, -, hb⟩
  clear u0 u1 u2 u3 u4 u5 u6 u7
  replace BW := hide (below_on (unhide BW) (hb))
  replace D3 := hide ((unhide D3).below (hb))
  replace I3 := hide ((unhide I3).below (hb))
  replace X3 := hide ((unhide X3).below (hb))
  have R5 := hide hA.row
  have C5 := hide hC.1
  have hq5 := hA.cap.q
  have ln5 := hide hC.1.1
  clear hA hC hb
  have bb := below_al (Below.refl _ w5) (.cells (svc y5 Ta) 29)
  have X5 := hide (blk_new w5 (svc y5 Ta) 29)
  replace BW := hide (below_on (unhide BW) (bb))
  replace D3 := hide ((unhide D3).below (bb))
  replace I3 := hide ((unhide I3).below (bb))
  replace X3 := hide ((unhide X3).below (bb))
  replace R5 := hide ((unhide R5).below (bb))
  replace C5 := hide ((unhide C5).below (bb))
  obtain ⟨b5, hb5⟩ : ∃ g, w5.heap.size = g := ⟨_, rfl⟩
  rw [hb5] at X5
  clear bb
  have u0 := (unhide X3).at 0; have u1 := (unhide X3).at 1; have u2 := (unhide X3).at 2; have u3 := (unhide X3).at 3; have u4 := (unhide X3).at 4; have u5 := (unhide X3).at 5; have u6 := (unhide X3).at 6; have u7 := (unhide X3).at 7
  simp at u0 u1 u2 u3 u4 u5 u6 u7
  go_wp2_with fail
  clear hb5
  refine (unhide CSa _ (unhide D3) (unhide I3)).mono ?_
  rintro e w7 ⟨y7, hs7, go7, gn7, gc7, rfl, hA, hC, -, hb⟩
  clear u0 u1 u2 u3 u4 u5 u6 u7
  replace BW := hide (below_on (unhide BW) (hb))
  replace D3 := hide ((unhide D3).below (hb))
  replace I3 := hide ((unhide I3).below (hb))
  replace X3 := hide ((unhide X3).below (hb))
  replace R5 := hide ((unhide R5).below (hb))
  replace C5 := hide ((unhide C5).below (hb))
  replace X5 := hide ((unhide X5).below (hb))
  have R7 := hide hA.row
  have C7 := hide hC.1
  have hq7 := hA.cap.q
  have ln7 := hide hC.1.1
  clear hA hC hb
  have bb := below_al (Below.refl _ w7) (.cells (svc y7 Ta) 29)
  have X7 := hide (blk_new w7 (svc y7 Ta) 29)
  replace BW := hide (below_on (unhide BW) (bb))
  replace D3 := hide ((unhide D3).below (bb))
  replace I3 := hide ((unhide I3).below (bb))
  replace X3 := hide ((unhide X3).below (bb))
  replace R5 := hide ((unhide R5).below (bb))
  replace C5 := hide ((unhide C5).below (bb))
  replace X5 := hide ((unhide X5).below (bb))
  replace R7 := hide ((unhide R7).below (bb))
  replace C7 := hide ((unhide C7).below (bb))
  obtain ⟨b7, hb7⟩ : ∃ g, w7.heap.size = g := ⟨_, rfl⟩
  rw [hb7] at X7
  clear bb
  go_wp2_with fail
  clear hb7
  refine (drawDrop_any w.heap.size _ _ _ _ ((unhide HK).below (unhide BW) (Nat.le_refl _))).mono ?_
  rintro e w9 ⟨yb, sb, hsb, ax, rfl, hD, hax, hb⟩
  replace BW := hide (below_on (unhide BW) (unhide hb))
  replace D3 := hide ((unhide D3).below (unhide hb))
  replace I3 := hide ((unhide I3).below (unhide hb))
  replace X3 := hide ((unhide X3).below (unhide hb))
  replace R5 := hide ((unhide R5).below (unhide hb))
  replace C5 := hide ((unhide C5).below (unhide hb))
  replace X5 := hide ((unhide X5).below (unhide hb))
  replace R7 := hide ((unhide R7).below (unhide hb))
  replace C7 := hide ((unhide C7).below (unhide hb))
  replace X7 := hide ((unhide X7).below (unhide hb))
  have D9 := hD
  clear hD hb
  have bb := below_al (Below.refl _ w9) (.cells (svc yb sb) 29)
  have X9 := hide (blk_new w9 (svc yb sb) 29)
  replace BW := hide (below_on (unhide BW) (bb))
  replace D3 := hide ((unhide D3).below (bb))
  replace I3 := hide ((unhide I3).below (bb))
  replace X3 := hide ((unhide X3).below (bb))
  replace R5 := hide ((unhide R5).below (bb))
  replace C5 := hide ((unhide C5).below (bb))
  replace X5 := hide ((unhide X5).below (bb))
  replace R7 := hide ((unhide R7).below (bb))
  replace C7 := hide ((unhide C7).below (bb))
  replace X7 := hide ((unhide X7).below (bb))
  replace D9 := hide ((unhide D9).below (bb))
  obtain ⟨b9, hb9⟩ : ∃ g, w9.heap.size = g := ⟨_, rfl⟩
  rw [hb9] at X9
  clear bb
  have fitb := (unhide D9).fit
  have wfb := (unhide D9).wf
  have FTb := hide (drop_fit fitb wfb ax).1
  have WTb := hide (drop_fit fitb wfb ax).2
  have HGb := hide (drop_glen fitb ax)
  have OKb := hide (fun h => drop_ok (s := sb) h ax)
  have GOb := hide (fun h => drop_gone (s := sb) h ax)
  have SOb := hide (fun wx (D : DrU wx yb sb hsb) => specStateOk_any yb sb wx D.row D.fit)
  have CIb := hide (fun wx (D : DrU wx yb sb hsb)  => implDrop_any yb sb ax wx D.row D.fit D.cap D.wf)
  have CSb := hide (fun wx (D : DrU wx yb sb hsb)  => specDrop_any yb sb hsb ax wx D.row D.av D.hd D.sm D.fit)
  obtain ⟨⟨Tb, Gb⟩, hTb⟩ : ∃ p, dropV sb ax = p := ⟨_, rfl⟩
  rw [hTb] at FTb WTb CIb CSb HGb OKb GOb
  simp only at FTb WTb CIb CSb HGb OKb GOb
  clear hTb
  obtain ⟨ob, hob⟩ : ∃ q, stateOkV sb = q := ⟨_, rfl⟩
  rw [hob] at OKb GOb SOb
  clear hob
  have u0 := (unhide X9).at 0; have u1 := (unhide X9).at 1; have u2 := (unhide X9).at 2; have u3 := (unhide X9).at 3; have u4 := (unhide X9).at 4; have u5 := (unhide X9).at 5; have u6 := (unhide X9).at 6; have u7 := (unhide X9).at 7
  simp at u0 u1 u2 u3 u4 u5 u6 u7
  go_wp2_with fail
  clear hb9
  refine (unhide CIb _ (unhide D9)).mono ?_
  rintro e w11 ⟨y11, hs11, go11, gn11, gc11, rfl, hA, hC, -, hb⟩
  clear u0 u1 u2 u3 u4 u5 u6 u7
  replace BW := hide (below_on (unhide BW) (hb))
  replace D3 := hide ((unhide D3).below (hb))
  replace I3 := hide ((unhide I3).below (hb))
  replace X3 := hide ((unhide X3).below (hb))
  replace R5 := hide ((unhide R5).below (hb))
  replace C5 := hide ((unhide C5).below (hb))
  replace X5 := hide ((unhide X5).below (hb))
  replace R7 := hide ((unhide R7).below (hb))
  replace C7 := hide ((unhide C7).below (hb))
  replace X7 := hide ((unhide X7).below (hb))
  replace D9 := hide ((unhide D9).below (hb))
  replace X9 := hide ((unhide X9).below (hb))
  have R11 := hide hA.row
  have C11 := hide hC.1
  have hq11 := hA.cap.q
  have ln11 := hide hC.1.1
  clear hA hC hb
  have bb := below_al (Below.refl _ w11) (.cells (svc y11 Tb) 29)
  have X11 := hide (blk_new w11 (svc y11 Tb) 29)
  replace BW := hide (below_on (unhide BW) (bb))
  replace D3 := hide ((unhide D3).below (bb))
  replace I3 := hide ((unhide I3).below (bb))
  replace X3 := hide ((unhide X3).below (bb))
  replace R5 := hide ((unhide R5).below (bb))
  replace C5 := hide ((unhide C5).below (bb))
  replace X5 := hide ((unhide X5).below (bb))
  replace R7 := hide ((unhide R7).below (bb))
  replace C7 := hide ((unhide C7).below (bb))
  replace X7 := hide ((unhide X7).below (bb))
  replace D9 := hide ((unhide D9).below (bb))
  replace X9 := hide ((unhide X9).below (bb))
  replace R11 := hide ((unhide R11).below (bb))
  replace C11 := hide ((unhide C11).below (bb))
  obtain ⟨b11, hb11⟩ : ∃ g, w11.heap.size = g := ⟨_, rfl⟩
  rw [hb11] at X11
  clear bb
  have u0 := (unhide X9).at 0; have u1 := (unhide X9).at 1; have u2 := (unhide X9).at 2; have u3 := (unhide X9).at 3; have u4 := (unhide X9).at 4; have u5 := (unhide X9).at 5; have u6 := (unhide X9).at 6; have u7 := (unhide X9).at 7
  simp at u0 u1 u2 u3 u4 u5 u6 u7
  go_wp2_with fail
  clear hb11
  refine (unhide CSb _ (unhide D9)).mono ?_
  rintro e w13 ⟨y13, hs13, go13, gn13, gc13, rfl, hA, hC, -, hb⟩
  clear u0 u1 u2 u3 u4 u5 u6 u7
  replace BW := hide (below_on (unhide BW) (hb))
  replace D3 := hide ((unhide D3).below (hb))
  replace I3 := hide ((unhide I3).below (hb))
  replace X3 := hide ((unhide X3).below (hb))
  replace R5 := hide ((unhide R5).below (hb))
  replace C5 := hide ((unhide C5).below (hb))
  replace X5 := hide ((unhide X5).below (hb))
  replace R7 := hide ((unhide R7).below (hb))
  replace C7 := hide ((unhide C7).below (hb))
  replace X7 := hide ((unhide X7).below (hb))
  replace D9 := hide ((unhide D9).below (hb))
  replace X9 := hide ((unhide X9).below (hb))
  replace R11 := hide ((unhide R11).below (hb))
  replace C11 := hide ((unhide C11).below (hb))
  replace X11 := hide ((unhide X11).below (hb))
  have R13 := hide hA.row
  have C13 := hide hC.1
  have hq13 := hA.cap.q
  have ln13 := hide hC.1.1
  clear hA hC hb
  have bb := below_al (Below.refl _ w13) (.cells (svc y13 Tb) 29)
  have X13 := hide (blk_new w13 (svc y13 Tb) 29)
  replace BW := hide (below_on (unhide BW) (bb))
  replace D3 := hide ((unhide D3).below (bb))
  replace I3 := hide ((unhide I3).below (bb))
  replace X3 := hide ((unhide X3).below (bb))
  replace R5 := hide ((unhide R5).below (bb))
  replace C5 := hide ((unhide C5).below (bb))
  replace X5 := hide ((unhide X5).below (bb))
  replace R7 := hide ((unhide R7).below (bb))
  replace C7 := hide ((unhide C7).below (bb))
  replace X7 := hide ((unhide X7).below (bb))
  replace D9 := hide ((unhide D9).below (bb))
  replace X9 := hide ((unhide X9).below (bb))
  replace R11 := hide ((unhide R11).below (bb))
  replace C11 := hide ((unhide C11).below (bb))
  replace X11 := hide ((unhide X11).below (bb))
  replace R13 := hide ((unhide R13).below (bb))
  replace C13 := hide ((unhide C13).below (bb))
  obtain ⟨b13, hb13⟩ : ∃ g, w13.heap.size = g := ⟨_, rfl⟩
  rw [hb13] at X13
  clear bb
  go_wp2_with fail
  clear hb13
  refine (drawLose_any w.heap.size _ _ _ _ ((unhide HK).below (unhide BW) (Nat.le_refl _))).mono ?_
  rintro e w15 ⟨yc, sc, hsc, nd, rfl, hD, hnd, hb⟩
  replace BW := hide (below_on (unhide BW) (unhide hb))
  replace D3 := hide ((unhide D3).below (unhide hb))
  replace I3 := hide ((unhide I3).below (unhide hb))
  replace X3 := hide ((unhide X3).below (unhide hb))
  replace R5 := hide ((unhide R5).below (unhide hb))
  replace C5 := hide ((unhide C5).below (unhide hb))
  replace X5 := hide ((unhide X5).below (unhide hb))
  replace R7 := hide ((unhide R7).below (unhide hb))
  replace C7 := hide ((unhide C7).below (unhide hb))
  replace X7 := hide ((unhide X7).below (unhide hb))
  replace D9 := hide ((unhide D9).below (unhide hb))
  replace X9 := hide ((unhide X9).below (unhide hb))
  replace R11 := hide ((unhide R11).below (unhide hb))
  replace C11 := hide ((unhide C11).below (unhide hb))
  replace X11 := hide ((unhide X11).below (unhide hb))
  replace R13 := hide ((unhide R13).below (unhide hb))
  replace C13 := hide ((unhide C13).below (unhide hb))
  replace X13 := hide ((unhide X13).below (unhide hb))
  have D15 := hD
  clear hD hb
  have bb := below_al (Below.refl _ w15) (.cells (svc yc sc) 29)
  have X15 := hide (blk_new w15 (svc yc sc) 29)
  replace BW := hide (below_on (unhide BW) (bb))
  replace D3 := hide ((unhide D3).below (bb))
  replace I3 := hide ((unhide I3).below (bb))
  replace X3 := hide ((unhide X3).below (bb))
  replace R5 := hide ((unhide R5).below (bb))
  replace C5 := hide ((unhide C5).below (bb))
  replace X5 := hide ((unhide X5).below (bb))
  replace R7 := hide ((unhide R7).below (bb))
  replace C7 := hide ((unhide C7).below (bb))
  replace X7 := hide ((unhide X7).below (bb))
  replace D9 := hide ((unhide D9).below (bb))
  replace X9 := hide ((unhide X9).below (bb))
  replace R11 := hide ((unhide R11).below (bb))
  replace C11 := hide ((unhide C11).below (bb))
  replace X11 := hide ((unhide X11).below (bb))
  replace R13 := hide ((unhide R13).below (bb))
  replace C13 := hide ((unhide C13).below (bb))
  replace X13 := hide ((unhide X13).below (bb))
  replace D15 := hide ((unhide D15).below (bb))
  obtain ⟨b15, hb15⟩ : ∃ g, w15.heap.size = g := ⟨_, rfl⟩
  rw [hb15] at X15
  clear bb
  have fitc := (unhide D15).fit
  have wfc := (unhide D15).wf
  have FTc := hide (lose_fit fitc wfc nd).1
  have WTc := hide (lose_fit fitc wfc nd).2
  have HGc := hide (lose_glen fitc nd)
  have OKc := hide (fun h => lose_ok (s := sc) h nd)
  have LNc := hide (fun h => lose_len (s := sc) h nd)
  have LTc := hide (lose_lost sc nd)
  have NMc := hide (fun h => lose_names (s := sc) h nd)
  have SOc := hide (fun wx (D : DrU wx yc sc hsc) => specStateOk_any yc sc wx D.row D.fit)
  have CIc := hide (fun wx (D : DrU wx yc sc hsc)  => implLose_any yc sc nd wx D.row D.fit D.cap D.wf)
  have CSc := hide (fun wx (D : DrU wx yc sc hsc)  => specLose_any yc sc hsc nd wx D.row D.av D.hd D.sm D.fit)
  obtain ⟨⟨Tc, Gc⟩, hTc⟩ : ∃ p, loseV sc nd = p := ⟨_, rfl⟩
  rw [hTc] at FTc WTc CIc CSc HGc OKc LNc LTc NMc
  simp only at FTc WTc CIc CSc HGc OKc LNc LTc NMc
  clear hTc
  obtain ⟨oc, hoc⟩ : ∃ q, stateOkV sc = q := ⟨_, rfl⟩
  rw [hoc] at OKc LNc NMc SOc
  clear hoc
  have u0 := (unhide X15).at 0; have u1 := (unhide X15).at 1; have u2 := (unhide X15).at 2; have u3 := (unhide X15).at 3; have u4 := (unhide X15).at 4; have u5 := (unhide X15).at 5; have u6 := (unhide X15).at 6; have u7 := (unhide X15).at 7
  simp at u0 u1 u2 u3 u4 u5 u6 u7
  go_wp2_with fail
  clear hb15
  refine (unhide CIc _ (unhide D15)).mono ?_
  rintro e w17 ⟨y17, hs17, go17, gn17, gc17, rfl, hA, hC, -, hb⟩
  clear u0 u1 u2 u3 u4 u5 u6 u7
  replace BW := hide (below_on (unhide BW) (hb))
  replace D3 := hide ((unhide D3).below (hb))
  replace I3 := hide ((unhide I3).below (hb))
  replace X3 := hide ((unhide X3).below (hb))
  replace R5 := hide ((unhide R5).below (hb))
  replace C5 := hide ((unhide C5).below (hb))
  replace X5 := hide ((unhide X5).below (hb))
  replace R7 := hide ((unhide R7).below (hb))
  replace C7 := hide ((unhide C7).below (hb))
  replace X7 := hide ((unhide X7).below (hb))
  replace D9 := hide ((unhide D9).below (hb))
  replace X9 := hide ((unhide X9).below (hb))
  replace R11 := hide ((unhide R11).below (hb))
  replace C11 := hide ((unhide C11).below (hb))
  replace X11 := hide ((unhide X11).below (hb))
  replace R13 := hide ((unhide R13).below (hb))
  replace C13 := hide ((unhide C13).below (hb))
  replace X13 := hide ((unhide X13).below (hb))
  replace D15 := hide ((unhide D15).below (hb))
  replace X15 := hide ((unhide X15).below (hb))
  have R17 := hide hA.row
  have C17 := hide hC.1
  have hq17 := hA.cap.q
  have ln17 := hide hC.1.1
  clear hA hC hb
  have bb := below_al (Below.refl _ w17) (.cells (svc y17 Tc) 29)
  have X17 := hide (blk_new w17 (svc y17 Tc) 29)
  replace BW := hide (below_on (unhide BW) (bb))
  replace D3 := hide ((unhide D3).below (bb))
  replace I3 := hide ((unhide I3).below (bb))
  replace X3 := hide ((unhide X3).below (bb))
  replace R5 := hide ((unhide R5).below (bb))
  replace C5 := hide ((unhide C5).below (bb))
  replace X5 := hide ((unhide X5).below (bb))
  replace R7 := hide ((unhide R7).below (bb))
  replace C7 := hide ((unhide C7).below (bb))
  replace X7 := hide ((unhide X7).below (bb))
  replace D9 := hide ((unhide D9).below (bb))
  replace X9 := hide ((unhide X9).below (bb))
  replace R11 := hide ((unhide R11).below (bb))
  replace C11 := hide ((unhide C11).below (bb))
  replace X11 := hide ((unhide X11).below (bb))
  replace R13 := hide ((unhide R13).below (bb))
  replace C13 := hide ((unhide C13).below (bb))
  replace X13 := hide ((unhide X13).below (bb))
  replace D15 := hide ((unhide D15).below (bb))
  replace X15 := hide ((unhide X15).below (bb))
  replace R17 := hide ((unhide R17).below (bb))
  replace C17 := hide ((unhide C17).below (bb))
  obtain ⟨b17, hb17⟩ : ∃ g, w17.heap.size = g := ⟨_, rfl⟩
  rw [hb17] at X17
  clear bb
  have u0 := (unhide X15).at 0; have u1 := (unhide X15).at 1; have u2 := (unhide X15).at 2; have u3 := (unhide X15).at 3; have u4 := (unhide X15).at 4; have u5 := (unhide X15).at 5; have u6 := (unhide X15).at 6; have u7 := (unhide X15).at 7
  simp at u0 u1 u2 u3 u4 u5 u6 u7
  go_wp2_with fail
  clear hb17
  refine (unhide CSc _ (unhide D15)).mono ?_
  rintro e w19 ⟨y19, hs19, go19, gn19, gc19, rfl, hA, hC, -, hb⟩
  clear u0 u1 u2 u3 u4 u5 u6 u7
  replace BW := hide (below_on (unhide BW) (hb))
  replace D3 := hide ((unhide D3).below (hb))
  replace I3 := hide ((unhide I3).below (hb))
  replace X3 := hide ((unhide X3).below (hb))
  replace R5 := hide ((unhide R5).below (hb))
  replace C5 := hide ((unhide C5).below (hb))
  replace X5 := hide ((unhide X5).below (hb))
  replace R7 := hide ((unhide R7).below (hb))
  replace C7 := hide ((unhide C7).below (hb))
  replace X7 := hide ((unhide X7).below (hb))
  replace D9 := hide ((unhide D9).below (hb))
  replace X9 := hide ((unhide X9).below (hb))
  replace R11 := hide ((unhide R11).below (hb))
  replace C11 := hide ((unhide C11).below (hb))
  replace X11 := hide ((unhide X11).below (hb))
  replace R13 := hide ((unhide R13).below (hb))
  replace C13 := hide ((unhide C13).below (hb))
  replace X13 := hide ((unhide X13).below (hb))
  replace D15 := hide ((unhide D15).below (hb))
  replace X15 := hide ((unhide X15).below (hb))
  replace R17 := hide ((unhide R17).below (hb))
  replace C17 := hide ((unhide C17).below (hb))
  replace X17 := hide ((unhide X17).below (hb))
  have R19 := hide hA.row
  have C19 := hide hC.1
  have hq19 := hA.cap.q
  have ln19 := hide hC.1.1
  clear hA hC hb
  have bb := below_al (Below.refl _ w19) (.cells (svc y19 Tc) 29)
  have X19 := hide (blk_new w19 (svc y19 Tc) 29)
  replace BW := hide (below_on (unhide BW) (bb))
  replace D3 := hide ((unhide D3).below (bb))
  replace I3 := hide ((unhide I3).below (bb))
  replace X3 := hide ((unhide X3).below (bb))
  replace R5 := hide ((unhide R5).below (bb))
  replace C5 := hide ((unhide C5).below (bb))
  replace X5 := hide ((unhide X5).below (bb))
  replace R7 := hide ((unhide R7).below (bb))
  replace C7 := hide ((unhide C7).below (bb))
  replace X7 := hide ((unhide X7).below (bb))
  replace D9 := hide ((unhide D9).below (bb))
  replace X9 := hide ((unhide X9).below (bb))
  replace R11 := hide ((unhide R11).below (bb))
  replace C11 := hide ((unhide C11).below (bb))
  replace X11 := hide ((unhide X11).below (bb))
  replace R13 := hide ((unhide R13).below (bb))
  replace C13 := hide ((unhide C13).below (bb))
  replace X13 := hide ((unhide X13).below (bb))
  replace D15 := hide ((unhide D15).below (bb))
  replace X15 := hide ((unhide X15).below (bb))
  replace R17 := hide ((unhide R17).below (bb))
  replace C17 := hide ((unhide C17).below (bb))
  replace X17 := hide ((unhide X17).below (bb))
  replace R19 := hide ((unhide R19).below (bb))
  replace C19 := hide ((unhide C19).below (bb))
  obtain ⟨b19, hb19⟩ : ∃ g, w19.heap.size = g := ⟨_, rfl⟩
  rw [hb19] at X19
  clear bb
  clear HK CIa CSa CIb CSb CIc CSc fita wfa fitb wfb fitc wfc
  have u0 := (unhide X5).at 0; have u1 := (unhide X5).at 1; have u2 := (unhide X5).at 2; have u3 := (unhide X5).at 3; have u4 := (unhide X5).at 4; have u5 := (unhide X5).at 5; have u6 := (unhide X5).at 6; have u7 := (unhide X5).at 7
  simp at u0 u1 u2 u3 u4 u5 u6 u7
  have v0 := (unhide X7).at 0; have v1 := (unhide X7).at 1; have v2 := (unhide X7).at 2; have v3 := (unhide X7).at 3; have v4 := (unhide X7).at 4; have v5 := (unhide X7).at 5; have v6 := (unhide X7).at 6; have v7 := (unhide X7).at 7
  simp at v0 v1 v2 v3 v4 v5 v6 v7
  go_wp2_with fail
  clear hb19
  refine (sameState_same y5 y7 Ta _ (unhide R5) (unhide R7) (unhide FTa)).mono ?_
  rintro e wz ⟨rfl, hb⟩
  clear u0 u1 u2 u3 u4 u5 u6 u7 v0 v1 v2 v3 v4 v5 v6 v7
  replace BW := hide (below_on (unhide BW) (hb))
  replace D3 := hide ((unhide D3).below (hb))
  replace I3 := hide ((unhide I3).below (hb))
  replace X3 := hide ((unhide X3).below (hb))
  replace R5 := hide ((unhide R5).below (hb))
  replace C5 := hide ((unhide C5).below (hb))
  replace X5 := hide ((unhide X5).below (hb))
  replace R7 := hide ((unhide R7).below (hb))
  replace C7 := hide ((unhide C7).below (hb))
  replace X7 := hide ((unhide X7).below (hb))
  replace D9 := hide ((unhide D9).below (hb))
  replace X9 := hide ((unhide X9).below (hb))
  replace R11 := hide ((unhide R11).below (hb))
  replace C11 := hide ((unhide C11).below (hb))
  replace X11 := hide ((unhide X11).below (hb))
  replace R13 := hide ((unhide R13).below (hb))
  replace C13 := hide ((unhide C13).below (hb))
  replace X13 := hide ((unhide X13).below (hb))
  replace D15 := hide ((unhide D15).below (hb))
  replace X15 := hide ((unhide X15).below (hb))
  replace R17 := hide ((unhide R17).below (hb))
  replace C17 := hide ((unhide C17).below (hb))
  replace X17 := hide ((unhide X17).below (hb))
  replace R19 := hide ((unhide R19).below (hb))
  replace C19 := hide ((unhide C19).below (hb))
  replace X19 := hide ((unhide X19).below (hb))
  clear hb
  have hgn : gn5 = gn7 := (unhide ln5).trans (unhide ln7).symm
  subst hgn
  go_wp2_with fail
  refine (sameConts_same go5 go7 gn5 gc5 gc7 Ga _ (unhide C5) (unhide C7) (by have := (unhide HGa); have := unhide ln5; omega)).mono ?_
  rintro e wz2 ⟨rfl, hb⟩
  replace BW := hide (below_on (unhide BW) (hb))
  replace D3 := hide ((unhide D3).below (hb))
  replace I3 := hide ((unhide I3).below (hb))
  replace X3 := hide ((unhide X3).below (hb))
  replace R5 := hide ((unhide R5).below (hb))
  replace C5 := hide ((unhide C5).below (hb))
  replace X5 := hide ((unhide X5).below (hb))
  replace R7 := hide ((unhide R7).below (hb))
  replace C7 := hide ((unhide C7).below (hb))
  replace X7 := hide ((unhide X7).below (hb))
  replace D9 := hide ((unhide D9).below (hb))
  replace X9 := hide ((unhide X9).below (hb))
  replace R11 := hide ((unhide R11).below (hb))
  replace C11 := hide ((unhide C11).below (hb))
  replace X11 := hide ((unhide X11).below (hb))
  replace R13 := hide ((unhide R13).below (hb))
  replace C13 := hide ((unhide C13).below (hb))
  replace X13 := hide ((unhide X13).below (hb))
  replace D15 := hide ((unhide D15).below (hb))
  replace X15 := hide ((unhide X15).below (hb))
  replace R17 := hide ((unhide R17).below (hb))
  replace C17 := hide ((unhide C17).below (hb))
  replace X17 := hide ((unhide X17).below (hb))
  replace R19 := hide ((unhide R19).below (hb))
  replace C19 := hide ((unhide C19).below (hb))
  replace X19 := hide ((unhide X19).below (hb))
  clear hb
  obtain ⟨wz, rfl⟩ : ∃ z, z = wz2 := ⟨_, rfl⟩
  have u0 := (unhide X11).at 0; have u1 := (unhide X11).at 1; have u2 := (unhide X11).at 2; have u3 := (unhide X11).at 3; have u4 := (unhide X11).at 4; have u5 := (unhide X11).at 5; have u6 := (unhide X11).at 6; have u7 := (unhide X11).at 7
  simp at u0 u1 u2 u3 u4 u5 u6 u7
  have v0 := (unhide X13).at 0; have v1 := (unhide X13).at 1; have v2 := (unhide X13).at 2; have v3 := (unhide X13).at 3; have v4 := (unhide X13).at 4; have v5 := (unhide X13).at 5; have v6 := (unhide X13).at 6; have v7 := (unhide X13).at 7
  simp at v0 v1 v2 v3 v4 v5 v6 v7
  go_wp2_with fail
  refine (sameState_same y11 y13 Tb _ (unhide R11) (unhide R13) (unhide FTb)).mono ?_
  rintro e wz ⟨rfl, hb⟩
  clear u0 u1 u2 u3 u4 u5 u6 u7 v0 v1 v2 v3 v4 v5 v6 v7
  replace BW := hide (below_on (unhide BW) (hb))
  replace D3 := hide ((unhide D3).below (hb))
  replace I3 := hide ((unhide I3).below (hb))
  replace X3 := hide ((unhide X3).below (hb))
  replace R5 := hide ((unhide R5).below (hb))
  replace C5 := hide ((unhide C5).below (hb))
  replace X5 := hide ((unhide X5).below (hb))
  replace R7 := hide ((unhide R7).below (hb))
  replace C7 := hide ((unhide C7).below (hb))
  replace X7 := hide ((unhide X7).below (hb))
  replace D9 := hide ((unhide D9).below (hb))
  replace X9 := hide ((unhide X9).below (hb))
  replace R11 := hide ((unhide R11).below (hb))
  replace C11 := hide ((unhide C11).below (hb))
  replace X11 := hide ((unhide X11).below (hb))
  replace R13 := hide ((unhide R13).below (hb))
  replace C13 := hide ((unhide C13).below (hb))
  replace X13 := hide ((unhide X13).below (hb))
  replace D15 := hide ((unhide D15).below (hb))
  replace X15 := hide ((unhide X15).below (hb))
  replace R17 := hide ((unhide R17).below (hb))
  replace C17 := hide ((unhide C17).below (hb))
  replace X17 := hide ((unhide X17).below (hb))
  replace R19 := hide ((unhide R19).below (hb))
  replace C19 := hide ((unhide C19).below (hb))
  replace X19 := hide ((unhide X19).below (hb))
  clear hb
  have hgn : gn11 = gn13 := (unhide ln11).trans (unhide ln13).symm
  subst hgn
  go_wp2_with fail
  refine (sameConts_same go11 go13 gn11 gc11 gc13 Gb _ (unhide C11) (unhide C13) (by have := (unhide HGb); have := unhide ln11; omega)).mono ?_
  rintro e wz2 ⟨rfl, hb⟩
  replace BW := hide (below_on (unhide BW) (hb))
  replace D3 := hide ((unhide D3).below (hb))
  replace I3 := hide ((unhide I3).below (hb))
  replace X3 := hide ((unhide X3).below (hb))
  replace R5 := hide ((unhide R5).below (hb))
  replace C5 := hide ((unhide C5).below (hb))
  replace X5 := hide ((unhide X5).below (hb))
  replace R7 := hide ((unhide R7).below (hb))
  replace C7 := hide ((unhide C7).below (hb))
  replace X7 := hide ((unhide X7).below (hb))
  replace D9 := hide ((unhide D9).below (hb))
  replace X9 := hide ((unhide X9).below (hb))
  replace R11 := hide ((unhide R11).below (hb))
  replace C11 := hide ((unhide C11).below (hb))
  replace X11 := hide ((unhide X11).below (hb))
  replace R13 := hide ((unhide R13).below (hb))
  replace C13 := hide ((unhide C13).below (hb))
  replace X13 := hide ((unhide X13).below (hb))
  replace D15 := hide ((unhide D15).below (hb))
  replace X15 := hide ((unhide X15).below (hb))
  replace R17 := hide ((unhide R17).below (hb))
  replace C17 := hide ((unhide C17).below (hb))
  replace X17 := hide ((unhide X17).below (hb))
  replace R19 := hide ((unhide R19).below (hb))
  replace C19 := hide ((unhide C19).below (hb))
  replace X19 := hide ((unhide X19).below (hb))
  clear hb
  obtain ⟨wz, rfl⟩ : ∃ z, z = wz2 := ⟨_, rfl⟩
  have u0 := (unhide X17).at 0; have u1 := (unhide X17).at 1; have u2 := (unhide X17).at 2; have u3 := (unhide X17).at 3; have u4 := (unhide X17).at 4; have u5 := (unhide X17).at 5; have u6 := (unhide X17).at 6; have u7 := (unhide X17).at 7
  simp at u0 u1 u2 u3 u4 u5 u6 u7
  have v0 := (unhide X19).at 0; have v1 := (unhide X19).at 1; have v2 := (unhide X19).at 2; have v3 := (unhide X19).at 3; have v4 := (unhide X19).at 4; have v5 := (unhide X19).at 5; have v6 := (unhide X19).at 6; have v7 := (unhide X19).at 7
  simp at v0 v1 v2 v3 v4 v5 v6 v7
  go_wp2_with fail
  refine (sameState_same y17 y19 Tc _ (unhide R17) (unhide R19) (unhide FTc)).mono ?_
  rintro e wz ⟨rfl, hb⟩
  clear u0 u1 u2 u3 u4 u5 u6 u7 v0 v1 v2 v3 v4 v5 v6 v7
  replace BW := hide (below_on (unhide BW) (hb))
  replace D3 := hide ((unhide D3).below (hb))
  replace I3 := hide ((unhide I3).below (hb))
  replace X3 := hide ((unhide X3).below (hb))
  replace R5 := hide ((unhide R5).below (hb))
  replace C5 := hide ((unhide C5).below (hb))
  replace X5 := hide ((unhide X5).below (hb))
  replace R7 := hide ((unhide R7).below (hb))
  replace C7 := hide ((unhide C7).below (hb))
  replace X7 := hide ((unhide X7).below (hb))
  replace D9 := hide ((unhide D9).below (hb))
  replace X9 := hide ((unhide X9).below (hb))
  replace R11 := hide ((unhide R11).below (hb))
  replace C11 := hide ((unhide C11).below (hb))
  replace X11 := hide ((unhide X11).below (hb))
  replace R13 := hide ((unhide R13).below (hb))
  replace C13 := hide ((unhide C13).below (hb))
  replace X13 := hide ((unhide X13).below (hb))
  replace D15 := hide ((unhide D15).below (hb))
  replace X15 := hide ((unhide X15).below (hb))
  replace R17 := hide ((unhide R17).below (hb))
  replace C17 := hide ((unhide C17).below (hb))
  replace X17 := hide ((unhide X17).below (hb))
  replace R19 := hide ((unhide R19).below (hb))
  replace C19 := hide ((unhide C19).below (hb))
  replace X19 := hide ((unhide X19).below (hb))
  clear hb
  have hgn : gn17 = gn19 := (unhide ln17).trans (unhide ln19).symm
  subst hgn
  go_wp2_with fail
  refine (sameConts_same go17 go19 gn17 gc17 gc19 Gc _ (unhide C17) (unhide C19) (by have := (unhide HGc); have := unhide ln17; omega)).mono ?_
  rintro e wz2 ⟨rfl, hb⟩
  replace BW := hide (below_on (unhide BW) (hb))
  replace D3 := hide ((unhide D3).below (hb))
  replace I3 := hide ((unhide I3).below (hb))
  replace X3 := hide ((unhide X3).below (hb))
  replace R5 := hide ((unhide R5).below (hb))
  replace C5 := hide ((unhide C5).below (hb))
  replace X5 := hide ((unhide X5).below (hb))
  replace R7 := hide ((unhide R7).below (hb))
  replace C7 := hide ((unhide C7).below (hb))
  replace X7 := hide ((unhide X7).below (hb))
  replace D9 := hide ((unhide D9).below (hb))
  replace X9 := hide ((unhide X9).below (hb))
  replace R11 := hide ((unhide R11).below (hb))
  replace C11 := hide ((unhide C11).below (hb))
  replace X11 := hide ((unhide X11).below (hb))
  replace R13 := hide ((unhide R13).below (hb))
  replace C13 := hide ((unhide C13).below (hb))
  replace X13 := hide ((unhide X13).below (hb))
  replace D15 := hide ((unhide D15).below (hb))
  replace X15 := hide ((unhide X15).below (hb))
  replace R17 := hide ((unhide R17).below (hb))
  replace C17 := hide ((unhide C17).below (hb))
  replace X17 := hide ((unhide X17).below (hb))
  replace R19 := hide ((unhide R19).below (hb))
  replace C19 := hide ((unhide C19).below (hb))
  replace X19 := hide ((unhide X19).below (hb))
  clear hb
  obtain ⟨wz, rfl⟩ : ∃ z, z = wz2 := ⟨_, rfl⟩
  go_upto_region 14 with fail
  have HSA := hide (fun (h : oa = true) => show (y5.cl : Int) + (gn5 : Int) = (ya.cl : Int) by have h0 := unhide ln5; have h1 := unhide LNa h; have h2 := (unhide R5).2.2.2.1; have h3 := (unhide D3).row.2.2.2.1; omega)
  have HSC := hide (fun (h : oc = true) => show (y17.cl : Int) + (gn17 : Int) = (yc.cl : Int) by have h0 := unhide ln17; have h1 := unhide LNc h; have h2 := (unhide R17).2.2.2.1; have h3 := (unhide D15).row.2.2.2.1; omega)
  have lm5 : y5.cl ≤ 1048576 := by have h1 := (unhide FTa).2.2.2.1; have h2 := (unhide R5).2.2.2.1; omega
  have lm17 : y17.cl ≤ 1048576 := by have h1 := (unhide FTc).2.2.2.1; have h2 := (unhide R17).2.2.2.1; omega
  have lg5 : gn5 ≤ 1048576 := by have := unhide HGa; have := unhide ln5; omega
  have lg17 : gn17 ≤ 1048576 := by have := unhide HGc; have := unhide ln17; omega
  clear ln5 ln7 ln11 ln13 ln17 ln19 hbig
  have BZ := hide (Below.refl wz.heap.size wz)
  go_cut [148] from 112 to 147 (fun v148 wx => v148 = .bool false ∧ Hid (Below wz.heap.size wz wx))
  case first =>
    cases oa
    · have u0 := ((unhide X3).below (unhide BZ)).at 0; have u1 := ((unhide X3).below (unhide BZ)).at 1; have u2 := ((unhide X3).below (unhide BZ)).at 2; have u3 := ((unhide X3).below (unhide BZ)).at 3; have u4 := ((unhide X3).below (unhide BZ)).at 4; have u5 := ((unhide X3).below (unhide BZ)).at 5; have u6 := ((unhide X3).below (unhide BZ)).at 6; have u7 := ((unhide X3).below (unhide BZ)).at 7
      simp at u0 u1 u2 u3 u4 u5 u6 u7
      go_wp2_with fail
      refine (unhide SOa _ ((unhide D3).below (unhide BZ))).mono ?_
      rintro e wq ⟨rfl, hb⟩
      replace BZ := hide (below_on (unhide BZ) hb)
      clear hb u0 u1 u2 u3 u4 u5 u6 u7
      cases ob
      · have u0 := ((unhide X9).below (unhide BZ)).at 0; have u1 := ((unhide X9).below (unhide BZ)).at 1; have u2 := ((unhide X9).below (unhide BZ)).at 2; have u3 := ((unhide X9).below (unhide BZ)).at 3; have u4 := ((unhide X9).below (unhide BZ)).at 4; have u5 := ((unhide X9).below (unhide BZ)).at 5; have u6 := ((unhide X9).below (unhide BZ)).at 6; have u7 := ((unhide X9).below (unhide BZ)).at 7
        simp at u0 u1 u2 u3 u4 u5 u6 u7
        go_wp2_with fail
        refine (unhide SOb _ ((unhide D9).below (unhide BZ))).mono ?_
        rintro e wq ⟨rfl, hb⟩
        replace BZ := hide (below_on (unhide BZ) hb)
        clear hb u0 u1 u2 u3 u4 u5 u6 u7
        cases oc
        · have u0 := ((unhide X15).below (unhide BZ)).at 0; have u1 := ((unhide X15).below (unhide BZ)).at 1; have u2 := ((unhide X15).below (unhide BZ)).at 2; have u3 := ((unhide X15).below (unhide BZ)).at 3; have u4 := ((unhide X15).below (unhide BZ)).at 4; have u5 := ((unhide X15).below (unhide BZ)).at 5; have u6 := ((unhide X15).below (unhide BZ)).at 6; have u7 := ((unhide X15).below (unhide BZ)).at 7
          simp at u0 u1 u2 u3 u4 u5 u6 u7
          go_wp2_with fail
          refine (unhide SOc _ ((unhide D15).below (unhide BZ))).mono ?_
          rintro e wq ⟨rfl, hb⟩
          replace BZ := hide (below_on (unhide BZ) hb)
          clear hb u0 u1 u2 u3 u4 u5 u6 u7
          go_wp2_with fail
          go_meet
          exact ⟨rfl, BZ⟩
        · have u0 := ((unhide X15).below (unhide BZ)).at 0; have u1 := ((unhide X15).below (unhide BZ)).at 1; have u2 := ((unhide X15).below (unhide BZ)).at 2; have u3 := ((unhide X15).below (unhide BZ)).at 3; have u4 := ((unhide X15).below (unhide BZ)).at 4; have u5 := ((unhide X15).below (unhide BZ)).at 5; have u6 := ((unhide X15).below (unhide BZ)).at 6; have u7 := ((unhide X15).below (unhide BZ)).at 7
          simp at u0 u1 u2 u3 u4 u5 u6 u7
          go_wp2_with fail
          refine (unhide SOc _ ((unhide D15).below (unhide BZ))).mono ?_
          rintro e wq ⟨rfl, hb⟩
          replace BZ := hide (below_on (unhide BZ) hb)
          clear hb u0 u1 u2 u3 u4 u5 u6 u7
          have u0 := ((unhide X17).below (unhide BZ)).at 0; have u1 := ((unhide X17).below (unhide BZ)).at 1; have u2 := ((unhide X17).below (unhide BZ)).at 2; have u3 := ((unhide X17).below (unhide BZ)).at 3; have u4 := ((unhide X17).below (unhide BZ)).at 4; have u5 := ((unhide X17).below (unhide BZ)).at 5; have u6 := ((unhide X17).below (unhide BZ)).at 6; have u7 := ((unhide X17).below (unhide BZ)).at 7
          simp at u0 u1 u2 u3 u4 u5 u6 u7
          go_wp2_with fail
          refine (io_ok (unhide FTc) (unhide WTc) hq17 (unhide OKc (by first | rfl | trivial)) _ ((unhide R17).below (unhide BZ))).mono ?_
          rintro e wq ⟨rfl, hb⟩
          replace BZ := hide (below_on (unhide BZ) hb)
          clear hb u0 u1 u2 u3 u4 u5 u6 u7
          go_wp2_with fail
          go_meet
          exact ⟨rfl, BZ⟩
      · have u0 := ((unhide X9).below (unhide BZ)).at 0; have u1 := ((unhide X9).below (unhide BZ)).at 1; have u2 := ((unhide X9).below (unhide BZ)).at 2; have u3 := ((unhide X9).below (unhide BZ)).at 3; have u4 := ((unhide X9).below (unhide BZ)).at 4; have u5 := ((unhide X9).below (unhide BZ)).at 5; have u6 := ((unhide X9).below (unhide BZ)).at 6; have u7 := ((unhide X9).below (unhide BZ)).at 7
        simp at u0 u1 u2 u3 u4 u5 u6 u7
        go_wp2_with fail
        refine (unhide SOb _ ((unhide D9).below (unhide BZ))).mono ?_
        rintro e wq ⟨rfl, hb⟩
        replace BZ := hide (below_on (unhide BZ) hb)
        clear hb u0 u1 u2 u3 u4 u5 u6 u7
        have u0 := ((unhide X11).below (unhide BZ)).at 0; have u1 := ((unhide X11).below (unhide BZ)).at 1; have u2 := ((unhide X11).below (unhide BZ)).at 2; have u3 := ((unhide X11).below (unhide BZ)).at 3; have u4 := ((unhide X11).below (unhide BZ)).at 4; have u5 := ((unhide X11).below (unhide BZ)).at 5; have u6 := ((unhide X11).below (unhide BZ)).at 6; have u7 := ((unhide X11).below (unhide BZ)).at 7
        simp at u0 u1 u2 u3 u4 u5 u6 u7
        go_wp2_with fail
        refine (io_ok (unhide FTb) (unhide WTb) hq11 (unhide OKb (by first | rfl | trivial)) _ ((unhide R11).below (unhide BZ))).mono ?_
        rintro e wq ⟨rfl, hb⟩
        replace BZ := hide (below_on (unhide BZ) hb)
        clear hb u0 u1 u2 u3 u4 u5 u6 u7
        cases oc
        · have u0 := ((unhide X15).below (unhide BZ)).at 0; have u1 := ((unhide X15).below (unhide BZ)).at 1; have u2 := ((unhide X15).below (unhide BZ)).at 2; have u3 := ((unhide X15).below (unhide BZ)).at 3; have u4 := ((unhide X15).below (unhide BZ)).at 4; have u5 := ((unhide X15).below (unhide BZ)).at 5; have u6 := ((unhide X15).below (unhide BZ)).at 6; have u7 := ((unhide X15).below (unhide BZ)).at 7
          simp at u0 u1 u2 u3 u4 u5 u6 u7
          go_wp2_with fail
          refine (unhide SOc _ ((unhide D15).below (unhide BZ))).mono ?_
          rintro e wq ⟨rfl, hb⟩
          replace BZ := hide (below_on (unhide BZ) hb)
          clear hb u0 u1 u2 u3 u4 u5 u6 u7
          go_wp2_with fail
          go_meet
          exact ⟨rfl, BZ⟩
        · have u0 := ((unhide X15).below (unhide BZ)).at 0; have u1 := ((unhide X15).below (unhide BZ)).at 1; have u2 := ((unhide X15).below (unhide BZ)).at 2; have u3 := ((unhide X15).below (unhide BZ)).at 3; have u4 := ((unhide X15).below (unhide BZ)).at 4; have u5 := ((unhide X15).below (unhide BZ)).at 5; have u6 := ((unhide X15).below (unhide BZ)).at 6; have u7 := ((unhide X15).below (unhide BZ)).at 7
          simp at u0 u1 u2 u3 u4 u5 u6 u7
          go_wp2_with fail
          refine (unhide SOc _ ((unhide D15).below (unhide BZ))).mono ?_
          rintro e wq ⟨rfl, hb⟩
          replace BZ := hide (below_on (unhide BZ) hb)
          clear hb u0 u1 u2 u3 u4 u5 u6 u7
          have u0 := ((unhide X17).below (unhide BZ)).at 0; have u1 := ((unhide X17).below (unhide BZ)).at 1; have u2 := ((unhide X17).below (unhide BZ)).at 2; have u3 := ((unhide X17).below (unhide BZ)).at 3; have u4 := ((unhide X17).below (unhide BZ)).at 4; have u5 := ((unhide X17).below (unhide BZ)).at 5; have u6 := ((unhide X17).below (unhide BZ)).at 6; have u7 := ((unhide X17).below (unhide BZ)).at 7
          simp at u0 u1 u2 u3 u4 u5 u6 u7
          go_wp2_with fail
          refine (io_ok (unhide FTc) (unhide WTc) hq17 (unhide OKc (by first | rfl | trivial)) _ ((unhide R17).below (unhide BZ))).mono ?_
          rintro e wq ⟨rfl, hb⟩
          replace BZ := hide (below_on (unhide BZ) hb)
          clear hb u0 u1 u2 u3 u4 u5 u6 u7
          go_wp2_with fail
          go_meet
          exact ⟨rfl, BZ⟩
    · have u0 := ((unhide X3).below (unhide BZ)).at 0; have u1 := ((unhide X3).below (unhide BZ)).at 1; have u2 := ((unhide X3).below (unhide BZ)).at 2; have u3 := ((unhide X3).below (unhide BZ)).at 3; have u4 := ((unhide X3).below (unhide BZ)).at 4; have u5 := ((unhide X3).below (unhide BZ)).at 5; have u6 := ((unhide X3).below (unhide BZ)).at 6; have u7 := ((unhide X3).below (unhide BZ)).at 7
      simp at u0 u1 u2 u3 u4 u5 u6 u7
      go_wp2_with fail
      refine (unhide SOa _ ((unhide D3).below (unhide BZ))).mono ?_
      rintro e wq ⟨rfl, hb⟩
      replace BZ := hide (below_on (unhide BZ) hb)
      clear hb u0 u1 u2 u3 u4 u5 u6 u7
      have u0 := ((unhide X5).below (unhide BZ)).at 0; have u1 := ((unhide X5).below (unhide BZ)).at 1; have u2 := ((unhide X5).below (unhide BZ)).at 2; have u3 := ((unhide X5).below (unhide BZ)).at 3; have u4 := ((unhide X5).below (unhide BZ)).at 4; have u5 := ((unhide X5).below (unhide BZ)).at 5; have u6 := ((unhide X5).below (unhide BZ)).at 6; have u7 := ((unhide X5).below (unhide BZ)).at 7
      simp at u0 u1 u2 u3 u4 u5 u6 u7
      go_wp2_with fail
      refine (io_ok (unhide FTa) (unhide WTa) hq5 (unhide OKa (by first | rfl | trivial)) _ ((unhide R5).below (unhide BZ))).mono ?_
      rintro e wq ⟨rfl, hb⟩
      replace BZ := hide (below_on (unhide BZ) hb)
      clear hb u0 u1 u2 u3 u4 u5 u6 u7
      have hsum := unhide HSA (by first | rfl | trivial)
      have x7 := ((unhide X5).below (unhide BZ)).at 7
      have x8 := ((unhide X3).below (unhide BZ)).at 7
      simp at x7 x8
      cases ob
      · have u0 := ((unhide X9).below (unhide BZ)).at 0; have u1 := ((unhide X9).below (unhide BZ)).at 1; have u2 := ((unhide X9).below (unhide BZ)).at 2; have u3 := ((unhide X9).below (unhide BZ)).at 3; have u4 := ((unhide X9).below (unhide BZ)).at 4; have u5 := ((unhide X9).below (unhide BZ)).at 5; have u6 := ((unhide X9).below (unhide BZ)).at 6; have u7 := ((unhide X9).below (unhide BZ)).at 7
        simp at u0 u1 u2 u3 u4 u5 u6 u7
        go_wp2_with fail
        refine (unhide SOb _ ((unhide D9).below (unhide BZ))).mono ?_
        rintro e wq ⟨rfl, hb⟩
        replace BZ := hide (below_on (unhide BZ) hb)
        clear hb u0 u1 u2 u3 u4 u5 u6 u7
        cases oc
        · have u0 := ((unhide X15).below (unhide BZ)).at 0; have u1 := ((unhide X15).below (unhide BZ)).at 1; have u2 := ((unhide X15).below (unhide BZ)).at 2; have u3 := ((unhide X15).below (unhide BZ)).at 3; have u4 := ((unhide X15).below (unhide BZ)).at 4; have u5 := ((unhide X15).below (unhide BZ)).at 5; have u6 := ((unhide X15).below (unhide BZ)).at 6; have u7 := ((unhide X15).below (unhide BZ)).at 7
          simp at u0 u1 u2 u3 u4 u5 u6 u7
          go_wp2_with fail
          refine (unhide SOc _ ((unhide D15).below (unhide BZ))).mono ?_
          rintro e wq ⟨rfl, hb⟩
          replace BZ := hide (below_on (unhide BZ) hb)
          clear hb u0 u1 u2 u3 u4 u5 u6 u7
          go_wp2_with fail
          go_meet
          exact ⟨rfl, BZ⟩
        · have u0 := ((unhide X15).below (unhide BZ)).at 0; have u1 := ((unhide X15).below (unhide BZ)).at 1; have u2 := ((unhide X15).below (unhide BZ)).at 2; have u3 := ((unhide X15).below (unhide BZ)).at 3; have u4 := ((unhide X15).below (unhide BZ)).at 4; have u5 := ((unhide X15).below (unhide BZ)).at 5; have u6 := ((unhide X15).below (unhide BZ)).at 6; have u7 := ((unhide X15).below (unhide BZ)).at 7
          simp at u0 u1 u2 u3 u4 u5 u6 u7
          go_wp2_with fail
          refine (unhide SOc _ ((unhide D15).below (unhide BZ))).mono ?_
          rintro e wq ⟨rfl, hb⟩
          replace BZ := hide (below_on (unhide BZ) hb)
          clear hb u0 u1 u2 u3 u4 u5 u6 u7
          have u0 := ((unhide X17).below (unhide BZ)).at 0; have u1 := ((unhide X17).below (unhide BZ)).at 1; have u2 := ((unhide X17).below (unhide BZ)).at 2; have u3 := ((unhide X17).below (unhide BZ)).at 3; have u4 := ((unhide X17).below (unhide BZ)).at 4; have u5 := ((unhide X17).below (unhide BZ)).at 5; have u6 := ((unhide X17).below (unhide BZ)).at 6; have u7 := ((unhide X17).below (unhide BZ)).at 7
          simp at u0 u1 u2 u3 u4 u5 u6 u7
          go_wp2_with fail
          refine (io_ok (unhide FTc) (unhide WTc) hq17 (unhide OKc (by first | rfl | trivial)) _ ((unhide R17).below (unhide BZ))).mono ?_
          rintro e wq ⟨rfl, hb⟩
          replace BZ := hide (below_on (unhide BZ) hb)
          clear hb u0 u1 u2 u3 u4 u5 u6 u7
          go_wp2_with fail
          go_meet
          exact ⟨rfl, BZ⟩
      · have u0 := ((unhide X9).below (unhide BZ)).at 0; have u1 := ((unhide X9).below (unhide BZ)).at 1; have u2 := ((unhide X9).below (unhide BZ)).at 2; have u3 := ((unhide X9).below (unhide BZ)).at 3; have u4 := ((unhide X9).below (unhide BZ)).at 4; have u5 := ((unhide X9).below (unhide BZ)).at 5; have u6 := ((unhide X9).below (unhide BZ)).at 6; have u7 := ((unhide X9).below (unhide BZ)).at 7
        simp at u0 u1 u2 u3 u4 u5 u6 u7
        go_wp2_with fail
        refine (unhide SOb _ ((unhide D9).below (unhide BZ))).mono ?_
        rintro e wq ⟨rfl, hb⟩
        replace BZ := hide (below_on (unhide BZ) hb)
        clear hb u0 u1 u2 u3 u4 u5 u6 u7
        have u0 := ((unhide X11).below (unhide BZ)).at 0; have u1 := ((unhide X11).below (unhide BZ)).at 1; have u2 := ((unhide X11).below (unhide BZ)).at 2; have u3 := ((unhide X11).below (unhide BZ)).at 3; have u4 := ((unhide X11).below (unhide BZ)).at 4; have u5 := ((unhide X11).below (unhide BZ)).at 5; have u6 := ((unhide X11).below (unhide BZ)).at 6; have u7 := ((unhide X11).below (unhide BZ)).at 7
        simp at u0 u1 u2 u3 u4 u5 u6 u7
        go_wp2_with fail
        refine (io_ok (unhide FTb) (unhide WTb) hq11 (unhide OKb (by first | rfl | trivial)) _ ((unhide R11).below (unhide BZ))).mono ?_
        rintro e wq ⟨rfl, hb⟩
        replace BZ := hide (below_on (unhide BZ) hb)
        clear hb u0 u1 u2 u3 u4 u5 u6 u7
        cases oc
        · have u0 := ((unhide X15).below (unhide BZ)).at 0; have u1 := ((unhide X15).below (unhide BZ)).at 1; have u2 := ((unhide X15).below (unhide BZ)).at 2; have u3 := ((unhide X15).below (unhide BZ)).at 3; have u4 := ((unhide X15).below (unhide BZ)).at 4; have u5 := ((unhide X15).below (unhide BZ)).at 5; have u6 := ((unhide X15).below (unhide BZ)).at 6; have u7 := ((unhide X15).below (unhide BZ)).at 7
          simp at u0 u1 u2 u3 u4 u5 u6 u7
          go_wp2_with fail
          refine (unhide SOc _ ((unhide D15).below (unhide BZ))).mono ?_
          rintro e wq ⟨rfl, hb⟩
          replace BZ := hide (below_on (unhide BZ) hb)
          clear hb u0 u1 u2 u3 u4 u5 u6 u7
          go_wp2_with fail
          go_meet
          exact ⟨rfl, BZ⟩
        · have u0 := ((unhide X15).below (unhide BZ)).at 0; have u1 := ((unhide X15).below (unhide BZ)).at 1; have u2 := ((unhide X15).below (unhide BZ)).at 2; have u3 := ((unhide X15).below (unhide BZ)).at 3; have u4 := ((unhide X15).below (unhide BZ)).at 4; have u5 := ((unhide X15).below (unhide BZ)).at 5; have u6 := ((unhide X15).below (unhide BZ)).at 6; have u7 := ((unhide X15).below (unhide BZ)).at 7
          simp at u0 u1 u2 u3 u4 u5 u6 u7
          go_wp2_with fail
          refine (unhide SOc _ ((unhide D15).below (unhide BZ))).mono ?_
          rintro e wq ⟨rfl, hb⟩
          replace BZ := hide (below_on (unhide BZ) hb)
          clear hb u0 u1 u2 u3 u4 u5 u6 u7
          have u0 := ((unhide X17).below (unhide BZ)).at 0; have u1 := ((unhide X17).below (unhide BZ)).at 1; have u2 := ((unhide X17).below (unhide BZ)).at 2; have u3 := ((unhide X17).below (unhide BZ)).at 3; have u4 := ((unhide X17).below (unhide BZ)).at 4; have u5 := ((unhide X17).below (unhide BZ)).at 5; have u6 := ((unhide X17).below (unhide BZ)).at 6; have u7 := ((unhide X17).below (unhide BZ)).at 7
          simp at u0 u1 u2 u3 u4 u5 u6 u7
          go_wp2_with fail
          refine (io_ok (unhide FTc) (unhide WTc) hq17 (unhide OKc (by first | rfl | trivial)) _ ((unhide R17).below (unhide BZ))).mono ?_
          rintro e wq ⟨rfl, hb⟩
          replace BZ := hide (below_on (unhide BZ) hb)
          clear hb u0 u1 u2 u3 u4 u5 u6 u7
          go_wp2_with fail
          go_meet
          exact ⟨rfl, BZ⟩
  case rest =>
    obtain ⟨rfl, hbz⟩ := hcut
    replace BW := hide (below_on (unhide BW) (unhide hbz))
    replace D3 := hide ((unhide D3).below (unhide hbz))
    replace I3 := hide ((unhide I3).below (unhide hbz))
    replace X3 := hide ((unhide X3).below (unhide hbz))
    replace R5 := hide ((unhide R5).below (unhide hbz))
    replace C5 := hide ((unhide C5).below (unhide hbz))
    replace X5 := hide ((unhide X5).below (unhide hbz))
    replace R7 := hide ((unhide R7).below (unhide hbz))
    replace C7 := hide ((unhide C7).below (unhide hbz))
    replace X7 := hide ((unhide X7).below (unhide hbz))
    replace D9 := hide ((unhide D9).below (unhide hbz))
    replace X9 := hide ((unhide X9).below (unhide hbz))
    replace R11 := hide ((unhide R11).below (unhide hbz))
    replace C11 := hide ((unhide C11).below (unhide hbz))
    replace X11 := hide ((unhide X11).below (unhide hbz))
    replace R13 := hide ((unhide R13).below (unhide hbz))
    replace C13 := hide ((unhide C13).below (unhide hbz))
    replace X13 := hide ((unhide X13).below (unhide hbz))
    replace D15 := hide ((unhide D15).below (unhide hbz))
    replace X15 := hide ((unhide X15).below (unhide hbz))
    replace R17 := hide ((unhide R17).below (unhide hbz))
    replace C17 := hide ((unhide C17).below (unhide hbz))
    replace X17 := hide ((unhide X17).below (unhide hbz))
    replace R19 := hide ((unhide R19).below (unhide hbz))
    replace C19 := hide ((unhide C19).below (unhide hbz))
    replace X19 := hide ((unhide X19).below (unhide hbz))
    clear hbz BZ
    obtain ⟨wd, rfl⟩ : ∃ z, z = wc := ⟨_, rfl⟩
    have hil6 : il ≤ 1048576 := by omega
    go_wp2
    go_loopw [21] (fun i wr => ∃ k : Nat, k ≤ y5.cl ∧ i = .int .i64 k ∧ Hid (Below wd.heap.size wd wr)) (fun i _ => y5.cl - (intOf i).toNat)
    case atStart => exact ⟨0, Nat.zero_le _, rfl, hide (Below.refl _ _)⟩
    case round =>
      obtain ⟨k, hk, rfl, BZ⟩ := hrel
      have x7 := ((unhide X5).below (unhide BZ)).at 7
      simp at x7
      by_cases hlt : k < y5.cl
      · have hkl : k < Ta.cs.length := by have := (unhide R5).2.2.2.1; omega
        have HG := hide (fun h : oa = true => unhide GOa h _ (List.getElem_mem hkl))
        obtain ⟨bo, off, hma, hq⟩ := (unhide R5).2.2.2.at hlt
        have HC := hide (hq hkl)
        obtain ⟨cx, hcx⟩ : ∃ c, Ta.cs[k] = c := ⟨_, rfl⟩
        rw [hcx] at HC HG
        clear hq hcx hkl
        obtain ⟨ci, hci⟩ : ∃ c, cx.id = c := ⟨_, rfl⟩
        have c00 := (unhide HC).1
        rw [hci] at HG c00
        have HC0 := hide c00
        clear c00 hci HC
        rw [hma] at x7
        have HMA := hide hma
        clear hma
        cases oa
        · have u0 := ((unhide X3).below (unhide BZ)).at 0; have u1 := ((unhide X3).below (unhide BZ)).at 1; have u2 := ((unhide X3).below (unhide BZ)).at 2; have u3 := ((unhide X3).below (unhide BZ)).at 3; have u4 := ((unhide X3).below (unhide BZ)).at 4; have u5 := ((unhide X3).below (unhide BZ)).at 5; have u6 := ((unhide X3).below (unhide BZ)).at 6; have u7 := ((unhide X3).below (unhide BZ)).at 7
          simp at u0 u1 u2 u3 u4 u5 u6 u7
          go_wp2_with fail
          refine (unhide SOa _ ((unhide D3).below (unhide BZ))).mono ?_
          rintro e wq ⟨rfl, hb⟩
          replace BZ := hide (below_on (unhide BZ) hb)
          clear hb u0 u1 u2 u3 u4 u5 u6 u7
          go_wp2
          go_roundw
          case rel => exact ⟨k + 1, by omega, by go_num, BZ⟩
          case measure => simp [intOf]; omega
        · have u0 := ((unhide X3).below (unhide BZ)).at 0; have u1 := ((unhide X3).below (unhide BZ)).at 1; have u2 := ((unhide X3).below (unhide BZ)).at 2; have u3 := ((unhide X3).below (unhide BZ)).at 3; have u4 := ((unhide X3).below (unhide BZ)).at 4; have u5 := ((unhide X3).below (unhide BZ)).at 5; have u6 := ((unhide X3).below (unhide BZ)).at 6; have u7 := ((unhide X3).below (unhide BZ)).at 7
          simp at u0 u1 u2 u3 u4 u5 u6 u7
          go_wp2_with fail
          refine (unhide SOa _ ((unhide D3).below (unhide BZ))).mono ?_
          rintro e wq ⟨rfl, hb⟩
          replace BZ := hide (below_on (unhide BZ) hb)
          clear hb u0 u1 u2 u3 u4 u5 u6 u7
          clear x7
          have x7 := ((unhide X5).below (unhide BZ)).at 7
          simp at x7
          rw [unhide HMA] at x7
          have c0 := ((unhide BZ).cell (cell_lt (unhide HC0))).trans (unhide HC0)
          go_wp2_with fail
          refine (among_no (unhide HG (by first | rfl | trivial)) hil6 _ ((unhide I3).below (unhide BZ))).mono ?_
          rintro e wq2 ⟨rfl, hwq⟩
          subst hwq
          go_wp2
          go_roundw
          case rel => exact ⟨k + 1, by omega, by go_num, BZ⟩
          case measure => simp [intOf]; omega
      · go_upto_region 21 with fail
        clear x7 hlt
        replace BW := hide (below_on (unhide BW) (unhide BZ))
        replace D3 := hide ((unhide D3).below (unhide BZ))
        replace I3 := hide ((unhide I3).below (unhide BZ))
        replace X3 := hide ((unhide X3).below (unhide BZ))
        replace R5 := hide ((unhide R5).below (unhide BZ))
        replace C5 := hide ((unhide C5).below (unhide BZ))
        replace X5 := hide ((unhide X5).below (unhide BZ))
        replace R7 := hide ((unhide R7).below (unhide BZ))
        replace C7 := hide ((unhide C7).below (unhide BZ))
        replace X7 := hide ((unhide X7).below (unhide BZ))
        replace D9 := hide ((unhide D9).below (unhide BZ))
        replace X9 := hide ((unhide X9).below (unhide BZ))
        replace R11 := hide ((unhide R11).below (unhide BZ))
        replace C11 := hide ((unhide C11).below (unhide BZ))
        replace X11 := hide ((unhide X11).below (unhide BZ))
        replace R13 := hide ((unhide R13).below (unhide BZ))
        replace C13 := hide ((unhide C13).below (unhide BZ))
        replace X13 := hide ((unhide X13).below (unhide BZ))
        replace D15 := hide ((unhide D15).below (unhide BZ))
        replace X15 := hide ((unhide X15).below (unhide BZ))
        replace R17 := hide ((unhide R17).below (unhide BZ))
        replace C17 := hide ((unhide C17).below (unhide BZ))
        replace X17 := hide ((unhide X17).below (unhide BZ))
        replace R19 := hide ((unhide R19).below (unhide BZ))
        replace C19 := hide ((unhide C19).below (unhide BZ))
        replace X19 := hide ((unhide X19).below (unhide BZ))
        clear BZ GOa I3 lm5 lg5 HSA
        obtain ⟨th, hth⟩ : ∃ t, (findAp ax Tb.apps).isSome = t := ⟨_, rfl⟩
        have HTH := hide (fun h : ob = true => show th = false by rw [← hth, unhide GOb h]; rfl)
        have HT := hide hth
        clear hth GOb
        have u0 := (unhide X11).at 0; have u1 := (unhide X11).at 1; have u2 := (unhide X11).at 2; have u3 := (unhide X11).at 3; have u4 := (unhide X11).at 4; have u5 := (unhide X11).at 5; have u6 := (unhide X11).at 6; have u7 := (unhide X11).at 7
        simp at u0 u1 u2 u3 u4 u5 u6 u7
        go_wp2_with fail
        refine (ao_call (unhide FTb) (unhide WTb) hax (unhide HT) _ (unhide R11)).mono ?_
        rintro e we ⟨ai, aq, vo, vn, vc, rfl, hb⟩
        clear u0 u1 u2 u3 u4 u5 u6 u7
        replace BW := hide (below_on (unhide BW) (hb))
        replace D3 := hide ((unhide D3).below (hb))
        replace X3 := hide ((unhide X3).below (hb))
        replace R5 := hide ((unhide R5).below (hb))
        replace C5 := hide ((unhide C5).below (hb))
        replace X5 := hide ((unhide X5).below (hb))
        replace R7 := hide ((unhide R7).below (hb))
        replace C7 := hide ((unhide C7).below (hb))
        replace X7 := hide ((unhide X7).below (hb))
        replace D9 := hide ((unhide D9).below (hb))
        replace X9 := hide ((unhide X9).below (hb))
        replace R11 := hide ((unhide R11).below (hb))
        replace C11 := hide ((unhide C11).below (hb))
        replace X11 := hide ((unhide X11).below (hb))
        replace R13 := hide ((unhide R13).below (hb))
        replace C13 := hide ((unhide C13).below (hb))
        replace X13 := hide ((unhide X13).below (hb))
        replace D15 := hide ((unhide D15).below (hb))
        replace X15 := hide ((unhide X15).below (hb))
        replace R17 := hide ((unhide R17).below (hb))
        replace C17 := hide ((unhide C17).below (hb))
        replace X17 := hide ((unhide X17).below (hb))
        replace R19 := hide ((unhide R19).below (hb))
        replace C19 := hide ((unhide C19).below (hb))
        replace X19 := hide ((unhide X19).below (hb))
        clear hb
        have bb := below_al (Below.refl _ we) (.cells #[.int .i64 ai, .string (bs aq), .slice vo vn vc] 41)
        replace BW := hide (below_on (unhide BW) (bb))
        replace D3 := hide ((unhide D3).below (bb))
        replace X3 := hide ((unhide X3).below (bb))
        replace R5 := hide ((unhide R5).below (bb))
        replace C5 := hide ((unhide C5).below (bb))
        replace X5 := hide ((unhide X5).below (bb))
        replace R7 := hide ((unhide R7).below (bb))
        replace C7 := hide ((unhide C7).below (bb))
        replace X7 := hide ((unhide X7).below (bb))
        replace D9 := hide ((unhide D9).below (bb))
        replace X9 := hide ((unhide X9).below (bb))
        replace R11 := hide ((unhide R11).below (bb))
        replace C11 := hide ((unhide C11).below (bb))
        replace X11 := hide ((unhide X11).below (bb))
        replace R13 := hide ((unhide R13).below (bb))
        replace C13 := hide ((unhide C13).below (bb))
        replace X13 := hide ((unhide X13).below (bb))
        replace D15 := hide ((unhide D15).below (bb))
        replace X15 := hide ((unhide X15).below (bb))
        replace R17 := hide ((unhide R17).below (bb))
        replace C17 := hide ((unhide C17).below (bb))
        replace X17 := hide ((unhide X17).below (bb))
        replace R19 := hide ((unhide R19).below (bb))
        replace C19 := hide ((unhide C19).below (bb))
        replace X19 := hide ((unhide X19).below (bb))
        clear bb
        go_upto_region 22 with fail
        generalize we.alloc (.cells #[.int .i64 ai, .string (bs aq), .slice vo vn vc] 41) = wf at *
        have BZ := hide (Below.refl wf.heap.size wf)
        go_cut [178] from 174 to 177 (fun v178 wx => v178 = .bool false ∧ Hid (Below wf.heap.size wf wx))
        case first =>
          cases th
          · go_wp2_with fail
            go_meet
            exact ⟨rfl, BZ⟩
          · cases ob
            · have u0 := ((unhide X9).below (unhide BZ)).at 0; have u1 := ((unhide X9).below (unhide BZ)).at 1; have u2 := ((unhide X9).below (unhide BZ)).at 2; have u3 := ((unhide X9).below (unhide BZ)).at 3; have u4 := ((unhide X9).below (unhide BZ)).at 4; have u5 := ((unhide X9).below (unhide BZ)).at 5; have u6 := ((unhide X9).below (unhide BZ)).at 6; have u7 := ((unhide X9).below (unhide BZ)).at 7
              simp at u0 u1 u2 u3 u4 u5 u6 u7
              go_wp2_with fail
              refine (unhide SOb _ ((unhide D9).below (unhide BZ))).mono ?_
              rintro e wq ⟨rfl, hb⟩
              replace BZ := hide (below_on (unhide BZ) hb)
              clear hb u0 u1 u2 u3 u4 u5 u6 u7
              go_wp2_with fail
              go_meet
              exact ⟨rfl, BZ⟩
            · exact absurd (unhide HTH (by first | rfl | trivial)) (by simp)
        case rest =>
          obtain ⟨rfl, hbz⟩ := hcut
          replace BW := hide (below_on (unhide BW) (unhide hbz))
          replace D3 := hide ((unhide D3).below (unhide hbz))
          replace X3 := hide ((unhide X3).below (unhide hbz))
          replace R5 := hide ((unhide R5).below (unhide hbz))
          replace C5 := hide ((unhide C5).below (unhide hbz))
          replace X5 := hide ((unhide X5).below (unhide hbz))
          replace R7 := hide ((unhide R7).below (unhide hbz))
          replace C7 := hide ((unhide C7).below (unhide hbz))
          replace X7 := hide ((unhide X7).below (unhide hbz))
          replace D9 := hide ((unhide D9).below (unhide hbz))
          replace X9 := hide ((unhide X9).below (unhide hbz))
          replace R11 := hide ((unhide R11).below (unhide hbz))
          replace C11 := hide ((unhide C11).below (unhide hbz))
          replace X11 := hide ((unhide X11).below (unhide hbz))
          replace R13 := hide ((unhide R13).below (unhide hbz))
          replace C13 := hide ((unhide C13).below (unhide hbz))
          replace X13 := hide ((unhide X13).below (unhide hbz))
          replace D15 := hide ((unhide D15).below (unhide hbz))
          replace X15 := hide ((unhide X15).below (unhide hbz))
          replace R17 := hide ((unhide R17).below (unhide hbz))
          replace C17 := hide ((unhide C17).below (unhide hbz))
          replace X17 := hide ((unhide X17).below (unhide hbz))
          replace R19 := hide ((unhide R19).below (unhide hbz))
          replace C19 := hide ((unhide C19).below (unhide hbz))
          replace X19 := hide ((unhide X19).below (unhide hbz))
          clear hbz BZ HTH HT
          obtain ⟨wg, rfl⟩ : ∃ z, z = wc := ⟨_, rfl⟩
          go_wp2
          go_loopw [24] (fun i wr => ∃ k : Nat, k ≤ gn17 ∧ i = .int .i64 k ∧ wr = wg) (fun i _ => gn17 - (intOf i).toNat)
          case atStart => exact ⟨0, Nat.zero_le _, rfl, rfl⟩
          case round =>
            obtain ⟨k, hk, rfl, rfl⟩ := hrel
            by_cases hlt : k < gn17
            · have hkl : k < Gc.length := by have := (unhide C17).1; omega
              have hnd := unhide LTc _ (List.getElem_mem hkl)
              obtain ⟨bo, off, hma, hq⟩ := (unhide C17).at hlt
              have c2 := (hq hkl).2.2.1
              rw [hnd] at c2
              clear hq hnd hkl
              subst hma
              go_wp2
              go_roundw
              case rel => exact ⟨k + 1, by omega, by go_num, (by first | rfl | trivial)⟩
              case measure => simp [intOf]; omega
            · clear LTc
              have u0 := (unhide X15).at 0; have u1 := (unhide X15).at 1; have u2 := (unhide X15).at 2; have u3 := (unhide X15).at 3; have u4 := (unhide X15).at 4; have u5 := (unhide X15).at 5; have u6 := (unhide X15).at 6; have u7 := (unhide X15).at 7
              simp at u0 u1 u2 u3 u4 u5 u6 u7
              go_wp2_with fail
              refine (unhide SOc _ (unhide D15)).mono ?_
              rintro e wh ⟨rfl, hb⟩
              clear u0 u1 u2 u3 u4 u5 u6 u7
              replace BW := hide (below_on (unhide BW) (hb))
              replace D3 := hide ((unhide D3).below (hb))
              replace X3 := hide ((unhide X3).below (hb))
              replace R5 := hide ((unhide R5).below (hb))
              replace C5 := hide ((unhide C5).below (hb))
              replace X5 := hide ((unhide X5).below (hb))
              replace R7 := hide ((unhide R7).below (hb))
              replace C7 := hide ((unhide C7).below (hb))
              replace X7 := hide ((unhide X7).below (hb))
              replace D9 := hide ((unhide D9).below (hb))
              replace X9 := hide ((unhide X9).below (hb))
              replace R11 := hide ((unhide R11).below (hb))
              replace C11 := hide ((unhide C11).below (hb))
              replace X11 := hide ((unhide X11).below (hb))
              replace R13 := hide ((unhide R13).below (hb))
              replace C13 := hide ((unhide C13).below (hb))
              replace X13 := hide ((unhide X13).below (hb))
              replace D15 := hide ((unhide D15).below (hb))
              replace X15 := hide ((unhide X15).below (hb))
              replace R17 := hide ((unhide R17).below (hb))
              replace C17 := hide ((unhide C17).below (hb))
              replace X17 := hide ((unhide X17).below (hb))
              replace R19 := hide ((unhide R19).below (hb))
              replace C19 := hide ((unhide C19).below (hb))
              replace X19 := hide ((unhide X19).below (hb))
              clear hb
              cases oc
              · go_wp2
                go_ret
                exact ⟨rfl, unhide BW⟩
              · have hsum := unhide HSC (by first | rfl | trivial)
                have hno := hide (unhide NMc (by first | rfl | trivial))
                have hml : (Tc.ms.map (fun m => m.name)).length ≤ 1048576 := by have := (unhide FTc).2.2.1.1; rw [List.length_map]; omega
                have HML := hide hml
                clear hml
                have u0 := (unhide X17).at 0; have u1 := (unhide X17).at 1; have u2 := (unhide X17).at 2; have u3 := (unhide X17).at 3; have u4 := (unhide X17).at 4; have u5 := (unhide X17).at 5; have u6 := (unhide X17).at 6; have u7 := (unhide X17).at 7
                simp at u0 u1 u2 u3 u4 u5 u6 u7
                go_wp2_with fail
                refine (names_any y17 Tc _ (unhide R17) (unhide FTc)).mono ?_
                rintro e wi ⟨v, rfl, hv, hb⟩
                clear u0 u1 u2 u3 u4 u5 u6 u7
                replace BW := hide (below_on (unhide BW) (unhide hb))
                replace D3 := hide ((unhide D3).below (unhide hb))
                replace X3 := hide ((unhide X3).below (unhide hb))
                replace R5 := hide ((unhide R5).below (unhide hb))
                replace C5 := hide ((unhide C5).below (unhide hb))
                replace X5 := hide ((unhide X5).below (unhide hb))
                replace R7 := hide ((unhide R7).below (unhide hb))
                replace C7 := hide ((unhide C7).below (unhide hb))
                replace X7 := hide ((unhide X7).below (unhide hb))
                replace D9 := hide ((unhide D9).below (unhide hb))
                replace X9 := hide ((unhide X9).below (unhide hb))
                replace R11 := hide ((unhide R11).below (unhide hb))
                replace C11 := hide ((unhide C11).below (unhide hb))
                replace X11 := hide ((unhide X11).below (unhide hb))
                replace R13 := hide ((unhide R13).below (unhide hb))
                replace C13 := hide ((unhide C13).below (unhide hb))
                replace X13 := hide ((unhide X13).below (unhide hb))
                replace D15 := hide ((unhide D15).below (unhide hb))
                replace X15 := hide ((unhide X15).below (unhide hb))
                replace R17 := hide ((unhide R17).below (unhide hb))
                replace C17 := hide ((unhide C17).below (unhide hb))
                replace X17 := hide ((unhide X17).below (unhide hb))
                replace R19 := hide ((unhide R19).below (unhide hb))
                replace C19 := hide ((unhide C19).below (unhide hb))
                replace X19 := hide ((unhide X19).below (unhide hb))
                clear hb
                go_wp2_with fail
                refine (has_no (unhide hno) (unhide HML) _ _ (unhide hv)).mono ?_
                rintro e wj ⟨rfl, hwj⟩
                subst hwj
                have x7 := (unhide X17).at 7
                have x8 := (unhide X15).at 7
                simp at x7 x8
                go_wp2
                go_ret
                exact ⟨rfl, unhide BW⟩

set_option maxRecDepth 100000 in
theorem lifted (os : Os) (started : os.Started) (H : Type) (enc : TypeId × Value → H) :
    ReturnsInHanded {} Tryz.checked os 4 .any (Rows.fnTakeSpec.pre6 enc Tryz.prog Tryz.f4 Rows.fnTakeRow.domain false) (Rows.fnTakeSpec.post enc Tryz.prog Tryz.f4 false true false false) := by
  refine returnsInHanded_of_change (C := Tryz.checked) own started (by kernel_rfl) Tryz.func4
    (ChangeSpec.witness6 (enc := enc) (C := Tryz.checked) false ⟨#[], #[.slice none 0 0], []⟩ 8 (by kernel_rfl) (by kernel_rfl) (by kernel_rfl) (by kernel_rfl)) ?_
  intro W base args ds gs before hval0 hW hcnd _
  have hval : ∀ (j : Nat) t v, Tryz.f4.params[j]? = some t → args[j]? = some v → Value.okWide Tryz.prog W .any base t v := hval0
  have hW' := hW
  obtain ⟨p, q, hA0, hV, rfl, hfz, hnd⟩ := hW
  have hA : DataW.TrodAll enc Tryz.prog W 0 (fun _ => true) true Tryz.f4.params.toList args.toList ds p := hA0
  rw [Tryz.params4] at hA hval
  obtain ⟨v0, vs0, d0, ds0, p0, q0, hargs, rfl, rfl, h0, r0⟩ := trodAll_cons hA
  obtain ⟨rfl, rfl, rfl⟩ := trodAll_nil r0
  obtain rfl : args = #[v0] := by cases args; simp_all
  obtain ⟨rfl, rfl⟩ := trodVars_none hV
  obtain ⟨a0, len0, cap0, rfl⟩ := okWide_slice Tryz.underlying22 (hval 0 22 v0 rfl rfl)
  have k0 := h0
  have lt0 : ∀ x ∈ p0, x.block < W.heap.size := by obtain ⟨m, hm⟩ := k0; exact DataW.trod_lt m _ _ _ hm
  obtain ⟨z0, w0⟩ : ∃ zs, IsRow W a0 len0 cap0 zs := by
    obtain ⟨fuel, hf⟩ := h0
    rcases open_ints Tryz.underlying22 Tryz.underlying5 (by kernel_rfl) hf with ⟨hcs, _⟩ | ⟨x, l, c, zs, hcs, _, hl, hm, hz, _, hcell, hwz⟩
    · simp [Value.cells] at hcs
      obtain ⟨rfl, rfl, rfl⟩ := hcs
      exact ⟨[], .inl ⟨rfl, rfl, rfl, rfl⟩⟩
    · simp [Value.cells] at hcs
      obtain ⟨rfl, rfl, rfl⟩ := hcs
      exact ⟨zs, .inr ⟨_, rfl, hl, hm, by simpa using hz, hcell, hwz⟩⟩
  clear hA0 hval0
  refine (walk a0 len0 cap0 z0 W w0).mono fun e W' ⟨he, bel⟩ => ?_
  subst he
  exact ⟨_, rfl, _, _, _, [], _, [], hW', trodAll_mk1 (shut_bool Tryz.underlying4 _), (trodAll_cons_mk (Below.trod laidOut (by kernel_rfl) (of_decide_eq_true (by kernel_rfl)) k0 bel lt0) trodAll_mk0), rfl, bel.frame _, fun h => by cases h⟩

set_option maxRecDepth 100000 in
set_option maxHeartbeats 16000000 in
theorem closed : joinedFacts Tryz.prog 4 Tryz.f4 Rows.fnTakeSpec Rows.fnTakeRow = true := by
  unfold joinedFacts
  repeat rw [Bool.and_eq_true]
  repeat' apply And.intro
  all_goals (as_aux_lemma => kernel_rfl)
theorem over : Rows.fnTakeRow.holds Tryz.pinned (OpenSpec.ofChange Rows.fnTakeSpec) :=
  OpenClaim.holds_of_wide 4 Tryz.f4 rfl rfl rfl rfl rfl rfl rfl ⟨rfl, rfl, rfl, rfl, rfl⟩ rfl rfl rfl rfl rfl (by kernel_rfl) Tryz.func4 closed
    (of_decide_eq_true (by kernel_rfl)) (by unfold Func.isWrapper; first | (rw [if_pos (by decide +kernel)]; kernel_rfl) | (rw [if_neg (by decide +kernel)]; exact ⟨rfl, rfl⟩))
    (fun os started H enc _ => lifted os started H enc)
end Go.Proofs.YtbkchepelhkjlaaGreat.fnTake

namespace Go.Proofs.YtbkchepelhkjlaaGreat
theorem fnTake_holds : Rows.FnTakeSaid := fnTake.over
#print axioms fnTake_holds
end Go.Proofs.YtbkchepelhkjlaaGreat
