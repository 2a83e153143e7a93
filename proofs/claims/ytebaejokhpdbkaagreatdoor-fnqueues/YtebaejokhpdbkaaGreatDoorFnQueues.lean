/-
  The law FnQueues answers true at every slice of bytes, and leaves it as it was: queues come back from their text, the path of each ends at the first one; the library's variables stand as its text lays them (the card ties that); no other condition.
-/
import Derived.Test.YtebaejokhpdbkaaGreatDoorCards
import Derived.Test.YtebaejokhpdbkaaGreatDoorTie
import Derived.Test.YtebaejokhpdbkaaGreatDoorDrawQ
import Derived.Test.YtebaejokhpdbkaaGreatDoorSameW
import Derived.Test.YtebaejokhpdbkaaGreatDoorQuM
import Derived.Test.YtebaejokhpdbkaaGreatDoorPathS
import Derived.Test.YtebaejokhpdbkaaGreatDoorPathI
import Derived.Test.YtebaejokhpdbkaaGreatDoorReadS
import Derived.Test.YtebaejokhpdbkaaGreatDoorReadI
import Derived.Test.YtebaejokhpdbkaaGreatDoorQTextI
import Derived.Test.YtebaejokhpdbkaaGreatDoorLeafI
import Derived.Test.YtebaejokhpdbkaaGreatDoorCode
import Derived.Test.YtebaejokhpdbkaaGreatDoorTakeD
import Derived.WalkKit
import Derived.Deep.CutRange
import Derived.Deep.RegionHeld3
import Derived.Deep.RegionWith
import Derived.Deep.QuietTactic
import Derived.ProofKit
import Derived.OpenShut
import Derived.ShutString
import Derived.ChangeOld
import Derived.Below
import Derived.Deep.DeepHandedRow
import Derived.Lib.LaidTab
import Derived.Lay
import Derived.LaidHandle
import Derived.LaidSub
import Derived.MakeChecks
namespace Go.Proofs.YtebaejokhpdbkaaGreatDoor.fnQueues
open Go.ChangeShapes Go.WideShapes Go.ChangeAt Go.RowKit
open Go.ChangeMaps (open_string shut_string)
set_option linter.unusedVariables false

theorem own : ownKnob Tryz.prog.godebug = none := by kernel_rfl
theorem laidOut : laidOutB Tryz.prog = true := by kernel_rfl

theorem et : Tryz.prog.globalNamed "errors.errorType" = some 0 := by kernel_rfl
theorem rt : (Tryz.prog.cutTypes.find? (·.1 == "internal/reflectlite.rtype")).map (·.2) = some 105 := by kernel_rfl
theorem tsize : Tryz.prog.types.size = 178 := by kernel_rfl
theorem oneRow : ((List.range 178).filter fun t => Tryz.prog.rowNamed t [101, 114, 114, 111, 114]) = [53] := by kernel_rfl
theorem handle_of_laid {W : World} (h : laidMetH Tryz.prog Rows.fnQueuesRow.laid W) : ErrTypeAt W := by
  have h' : laidMet Tryz.prog (Rows.fnQueuesRow.laid.filter fun x => x.2.handleName?.isNone) W ∧ handlesMet Tryz.prog [("errors.errorType", Rows.laid_errors_errorType)] W := h
  obtain ⟨name, u, ty, e1, e2, e3, e4, e5⟩ := h'.2 _ (List.mem_singleton.2 rfl)
  have en : name = [101, 114, 114, 111, 114] := (Option.some.inj e1).symm
  subst en
  obtain rfl := Option.some.inj (rt.symm.trans e2)
  have hm : ty ∈ (List.range 178).filter fun t => Tryz.prog.rowNamed t [101, 114, 114, 111, 114] := List.mem_filter.2 ⟨List.mem_range.2 (by rw [← tsize]; exact e3), e4⟩
  rw [oneRow] at hm
  obtain rfl := List.mem_singleton.1 hm
  have hh : typeHandle Tryz.prog 53 = hdl 53 := by kernel_rfl
  rw [hh] at e5
  show W.cell? ⟨0, 0, none⟩ = _
  simpa using World.var?_cell et e5 0
theorem laidMet_layOn {P : Program} {w0 : World} {laid : List (String × DataW Unit)} (args : Array Value)
    (hf : w0.layFits P laid [] = true) (hi : w0.layIfaces P laid (w0.layVars P laid) = true) :
    laidMet P laid ((w0.layVars P laid).forCall (fun _ _ => 0) ⟨#[], args, []⟩).memory := by
  have e1 : (laid.filter fun x => (laid.map (·.1)).contains x.1) = laid := List.filter_eq_self.2 fun x hx => List.contains_iff_mem.2 (List.mem_map.2 ⟨x, hx, rfl⟩)
  have e2 : (laid.filter fun x => !(laid.map (·.1)).contains x.1) = [] := List.filter_eq_nil_iff.2 fun x hx => by rw [List.contains_iff_mem.2 (List.mem_map.2 ⟨x, hx, rfl⟩)]; simp
  have h : laidMet P laid (w0.layVars P laid) := laidMet_layVars (w0 := w0) (laid.map (·.1)) [] (by rw [e1]) (by rw [e1]; exact hf) (by rw [e1]; exact hi) (by rw [e2]; exact LaidIn.none)
  exact h.of_heap (by simp [World.memory, World.forCall, Input.heap])
/-- the variable that is a handle, laid -/
def layH : Obj → Obj
  | .cells _ t frozen => .cells #[.iface 105 (.agg #[hdl 53])] t frozen
  | o => o
/- LAIDW (World.layVars Tryz.prog { World.holding Tryz.prog os ⟨#[], #[], []⟩ with heap := (World.holding Tryz.prog os ⟨#[], #[], []⟩).heap.modify 0 layH } (Rows.fnQueuesRow.laid.filter fun x => x.2.handleName?.isNone)) -/
theorem laidW_met (os : Os) (args : Array Value) : laidMetH Tryz.prog Rows.fnQueuesRow.laid (World.forCall (World.layVars Tryz.prog { World.holding Tryz.prog os ⟨#[], #[], []⟩ with heap := (World.holding Tryz.prog os ⟨#[], #[], []⟩).heap.modify 0 layH } (Rows.fnQueuesRow.laid.filter fun x => x.2.handleName?.isNone)) (fun _ _ => 0) ⟨#[], args, []⟩).memory :=
  laidMetH_of_parts (laidMet_layOn args (by kernel_rfl) (by kernel_rfl)) (by kernel_rfl)
theorem gTabType : (Tryz.prog.globals[2]?).map (·.type) = some 140 := by kernel_rfl
theorem cellsT : Tryz.prog.cellsOf 140 = 20 := by kernel_rfl
theorem cellsE : Tryz.prog.cellsOf 132 = 1 := by kernel_rfl
theorem table {W : World} (h : laidMetH Tryz.prog Rows.fnQueuesRow.laid W) : Lib.TabIs Tryz.prog W "internal/strconv.uint64pow10" .u64 Lib.pow10Tab := by
  have h1 : laidMet Tryz.prog (Rows.fnQueuesRow.laid.filter fun x => x.2.handleName?.isNone) W := h.1
  have h2 := h1.filter (fun x => x.1 == "internal/strconv.uint64pow10")
  have e : ((Rows.fnQueuesRow.laid.filter fun x => x.2.handleName?.isNone).filter fun x => x.1 == "internal/strconv.uint64pow10") = [("internal/strconv.uint64pow10", Lib.tabData .u64 Lib.pow10Tab)] := by kernel_rfl
  rw [e] at h2
  exact Lib.tabIs_of_head (rest := []) gTab gTabType Tryz.underlying140 Tryz.underlying132 cellsE cellsT h2
set_option maxRecDepth 100000 in
set_option maxHeartbeats 40000000 in
theorem walk (a0 : Option Addr) (len0 cap0 : Nat) (z0 : List Int) (w : World) (w0 : IsRow w a0 len0 cap0 z0) (hL : laidMetH Tryz.prog Rows.fnQueuesRow.laid w) (hsh : w.ShapedOpen Tryz.prog) :
    Calls Tryz.prog 3 #[.slice a0 len0 cap0] w fun e w' => e = .returned (.bool true) ∧ Below w.heap.size w w' := by
  have hl := w0.len
  have HT : Hid (Lib.TabIs Tryz.prog w "internal/strconv.uint64pow10" .u64 Lib.pow10Tab) := table hL
  have HM := hide (MaxLenAt.of hsh)
  have HE := hide (handle_of_laid hL)
  clear hL hsh
  by_cases hbig : len0 ≤ 1048576
  case neg =>
    have hbb : bigB len0 = true := by simp [bigB]; omega
    clear w0
    go_enter Tryz.func3, Tryz.ntmps3
    go_wp2_with fail
    refine (big_any _ _ _ _ hl).mono ?_
    rintro e wb ⟨rfl, rfl⟩
    go_wp2
    go_ret
    exact ⟨rfl, Below.refl _ _⟩
  have HK := hide (code_of w0 hbig)
  have hbb : bigB len0 = false := by simp [bigB]; omega
  clear w0
  go_enter Tryz.func3, Tryz.ntmps3
  go_wp2_with fail
  refine (big_any _ _ _ _ hl).mono ?_
  rintro e wb ⟨rfl, rfl⟩
  go_wp2_with fail
  refine (drawPath_any _ _ _ _ _ (unhide HK)).mono ?_
  rintro e w1 ⟨qb, n, c, ls, nm, rfl, HA⟩
  obtain ⟨hrow, hnc, hnk, hn3, hbr, hnm, hbel, _⟩ := unhide HA
  have HQ := hide hrow
  have HB := hide hbel
  have HLN := hide hrow.1
  have HBR := hide (show ∀ q ∈ ls, q.name.length ≤ 1048576 from fun q hq => by have := hbr q hq; omega)
  have CPI := hide (fun wx (h : QRow wx (some ⟨qb, 0, none⟩) n ls) => implPath_any (some ⟨qb, 0, none⟩) n c ls nm wx h (by omega) (unhide HBR) hnc)
  have CPS := hide (fun wx (h : QRow wx (some ⟨qb, 0, none⟩) n ls) => specPath_any (some ⟨qb, 0, none⟩) n c ls nm wx h (by omega) (unhide HBR))
  have CLX := hide (fun (x : List UInt8) wx (h : QRow wx (some ⟨qb, 0, none⟩) n ls) => implLeaf_any (some ⟨qb, 0, none⟩) n c ls x wx h (by omega) (unhide HBR) hnc)
  have CLI := hide (unhide CLX nm)
  have CLS := hide (fun wx (h : QRow wx (some ⟨qb, 0, none⟩) n ls) => specLeaf_any (some ⟨qb, 0, none⟩) n c ls nm wx h (by omega) (unhide HBR))
  have HPF := hide (fun h => path_facts (l := ls) (nm := nm) h)
  have hpl := path_len ls nm
  obtain ⟨ph, hph⟩ : ∃ p, path ls nm = p := ⟨_, rfl⟩
  rw [hph] at CPI CPS HPF hpl
  obtain ⟨lf, hlf⟩ : ∃ b, leaf ls nm = b := ⟨_, rfl⟩
  rw [hlf] at CLI CLS
  have hpl2 : ph.length ≤ 1048576 := by have := unhide HLN; omega
  clear hrow hbr hbel hnm HA hph hlf hpl
  go_wp2_with fail
  refine (unhide CPI _ (unhide HQ)).mono ?_
  rintro e w2 ⟨vp, rfl, hp, hb⟩
  obtain ⟨po, pc, rfl, hpc⟩ := texts_at hp
  obtain ⟨N, hN⟩ : ∃ N, ph.length = N := ⟨_, rfl⟩
  rw [hN] at hp ⊢
  have HN := hide hN
  have HPC := hide hpc
  have HB := hide (below_on (unhide HB) hb)
  have HQ := hide ((unhide HQ).below hb)
  have HP := hide (hp)
  clear hb
  clear hp hpc CPI hN
  go_wp2_with fail
  refine (drawReadQueues_any _ _ _ _ _ ((unhide HK).below (unhide HB) (unhide HK).1)).mono ?_
  rintro e w3 ⟨t, rfl, ht, hb⟩
  have HB := hide (below_on (unhide HB) hb)
  have HQ := hide ((unhide HQ).below hb)
  have HP := hide ((unhide HP).below hb)
  have HPC := hide (pcells (unhide HPC) hb)
  clear hb
  obtain ⟨tl, rfl⟩ : ∃ tl, t = bs tl := ⟨t.data.toList, (bs_back t).symm⟩
  rw [bs_size] at ht
  have CRI := hide (fun wx (h : Below w.heap.size w wx) => implReadQueues_any tl wx (by omega) ((unhide HM).below h) ((unhide HE).below h))
  have CRS := hide (fun wx => by have := specReadQueues_any (bs tl) wx (by rw [bs_size]; omega); rw [show (bs tl).data.toList = tl by simp [bs]] at this; exact this)
  have HRX := hide (rd_facts tl)
  obtain ⟨⟨rl, rn⟩, hrd⟩ : ∃ p, rd [] tl = p := ⟨_, rfl⟩
  rw [hrd] at CRI CRS HRX
  simp only at CRI CRS HRX
  have hrl := (unhide HRX).1
  have HRN := hide (unhide HRX).2.1
  have HRB := hide (unhide HRX).2.2
  clear hrd HRX
  go_wp2_with fail
  refine (unhide CRI _ (unhide HB)).mono ?_
  rintro e w4 ⟨v1, rfl, ho, hb⟩
  obtain ⟨o1, c1, rfl, hr1, hc1⟩ := ho.row
  have HB := hide (below_on (unhide HB) hb)
  have HQ := hide ((unhide HQ).below hb)
  have HP := hide ((unhide HP).below hb)
  have HPC := hide (pcells (unhide HPC) hb)
  have HR1 := hide (hr1)
  clear hb
  clear ho hr1 CRI
  go_wp2_with fail
  refine (unhide CRS _).mono ?_
  rintro e w5 ⟨v2, rfl, ho, hb⟩
  obtain ⟨o2, c2, rfl, hr2, _⟩ := ho.row
  have HB := hide (below_on (unhide HB) hb)
  have HQ := hide ((unhide HQ).below hb)
  have HP := hide ((unhide HP).below hb)
  have HPC := hide (pcells (unhide HPC) hb)
  have HR1 := hide ((unhide HR1).below hb)
  have HR2 := hide (hr2)
  clear hb
  clear ho hr2 CRS
  go_wp2_with fail
  refine (drawQueuesText_any _ _ _ _ _ ((unhide HK).below (unhide HB) (unhide HK).1)).mono ?_
  rintro e w6 ⟨xb, xn, xc, xs, rfl, HX0⟩
  obtain ⟨hxr, hxc, hxn, hxbr, hb⟩ := unhide HX0
  obtain rfl : xn = xs.length := hxr.1
  have HB := hide (below_on (unhide HB) hb)
  have HQ := hide ((unhide HQ).below hb)
  have HP := hide ((unhide HP).below hb)
  have HPC := hide (pcells (unhide HPC) hb)
  have HR1 := hide ((unhide HR1).below hb)
  have HR2 := hide ((unhide HR2).below hb)
  have HX := hide (hxr)
  clear hb
  have HXB := hide (show ∀ q ∈ xs, q.name.length ≤ 1048576 from fun q hq => by have := hxbr q hq; omega)
  have CTI := hide (fun wx (h : QRow wx (some ⟨xb, 0, none⟩) xs.length xs) (hb : Below w.heap.size w wx) => implQueuesText_any (some ⟨xb, 0, none⟩) xs.length xc xs wx h (by omega) (unhide HXB) hxc (tab_on (unhide HT) hb))
  have CTS := hide (fun wx (h : QRow wx (some ⟨xb, 0, none⟩) xs.length xs) => specQueuesText_any (some ⟨xb, 0, none⟩) xs.length xc xs wx h (by omega) (unhide HXB))
  have COI := hide (fun wx (h : QRow wx (some ⟨xb, 0, none⟩) xs.length xs) => implQueuesOk_any (some ⟨xb, 0, none⟩) xs.length xc xs wx h (by omega) (unhide HXB) hxc)
  have COS := hide (fun wx (h : QRow wx (some ⟨xb, 0, none⟩) xs.length xs) => specQueuesOk_any (some ⟨xb, 0, none⟩) xs.length xc xs wx h (by omega) (unhide HXB))
  have HXF := hide (text_facts xs)
  have hxl := qtext_len xs
  obtain ⟨sx, hsx⟩ : ∃ s, qtext xs = s := ⟨_, rfl⟩
  obtain ⟨ok, hok⟩ : ∃ b, queuesOk xs = b := ⟨_, rfl⟩
  rw [hsx] at CTI CTS HXF hxl
  rw [hok] at COI COS HXF
  have CRX := hide (fun wx (h : Below w.heap.size w wx) => implReadQueues_any sx wx (by omega) ((unhide HM).below h) ((unhide HE).below h))
  have CTL := hide (fun wx (h : QRow wx o1 rl.length rl) (hb : Below w.heap.size w wx) => implQueuesText_any o1 rl.length c1 rl wx h (by omega) (unhide HRN) hc1 (tab_on (unhide HT) hb))
  clear hxr hxbr HX0 hsx hok HK HT HM HE
  go_wp2_with fail
  refine (unhide CTI _ (unhide HX) (unhide HB)).mono ?_
  rintro e w7 ⟨rfl, hb⟩
  have HB := hide (below_on (unhide HB) hb)
  have HQ := hide ((unhide HQ).below hb)
  have HP := hide ((unhide HP).below hb)
  have HPC := hide (pcells (unhide HPC) hb)
  have HR1 := hide ((unhide HR1).below hb)
  have HR2 := hide ((unhide HR2).below hb)
  have HX := hide ((unhide HX).below hb)
  clear hb
  clear CTI
  go_wp2_with fail
  refine (unhide CPS _ (unhide HQ)).mono ?_
  rintro e w8 ⟨vq, rfl, hp2, hb⟩
  have HB := hide (below_on (unhide HB) hb)
  have HQ := hide ((unhide HQ).below hb)
  have HP := hide ((unhide HP).below hb)
  have HPC := hide (pcells (unhide HPC) hb)
  have HR1 := hide ((unhide HR1).below hb)
  have HR2 := hide ((unhide HR2).below hb)
  have HX := hide ((unhide HX).below hb)
  have HP2 := hide (hp2)
  clear hb
  clear hp2 CPS
  go_wp2_with fail
  refine (sameTexts_same _ _ _ vq ph _ (unhide HP) (unhide HP2) hpl2).mono ?_
  rintro e w9 ⟨rfl, hb⟩
  have HB := hide (below_on (unhide HB) hb)
  have HQ := hide ((unhide HQ).below hb)
  have HP := hide ((unhide HP).below hb)
  have HPC := hide (pcells (unhide HPC) hb)
  have HR1 := hide ((unhide HR1).below hb)
  have HR2 := hide ((unhide HR2).below hb)
  have HX := hide ((unhide HX).below hb)
  clear hb
  clear HP2 HP
  go_wp2_with fail
  refine (sameQueues_same o1 o2 rl.length c1 c2 rl _ (unhide HR1) (unhide HR2) (by omega)).mono ?_
  rintro e w10 ⟨rfl, hb⟩
  have HB := hide (below_on (unhide HB) hb)
  have HQ := hide ((unhide HQ).below hb)
  have HPC := hide (pcells (unhide HPC) hb)
  have HR1 := hide ((unhide HR1).below hb)
  have HR2 := hide ((unhide HR2).below hb)
  have HX := hide ((unhide HX).below hb)
  clear hb
  clear HR2
  go_wp2_with fail
  refine (unhide CTS _ (unhide HX)).mono ?_
  rintro e w11 ⟨rfl, hb⟩
  have HB := hide (below_on (unhide HB) hb)
  have HQ := hide ((unhide HQ).below hb)
  have HPC := hide (pcells (unhide HPC) hb)
  have HR1 := hide ((unhide HR1).below hb)
  have HX := hide ((unhide HX).below hb)
  clear hb
  clear CTS
  go_wp2_with fail
  refine (unhide COI _ (unhide HX)).mono ?_
  rintro e w12 ⟨rfl, hb⟩
  have HB := hide (below_on (unhide HB) hb)
  have HQ := hide ((unhide HQ).below hb)
  have HPC := hide (pcells (unhide HPC) hb)
  have HR1 := hide ((unhide HR1).below hb)
  have HX := hide ((unhide HX).below hb)
  clear hb
  clear COI
  go_wp2_with fail
  refine (unhide COS _ (unhide HX)).mono ?_
  rintro e w13 ⟨rfl, hb⟩
  have HB := hide (below_on (unhide HB) hb)
  have HQ := hide ((unhide HQ).below hb)
  have HPC := hide (pcells (unhide HPC) hb)
  have HR1 := hide ((unhide HR1).below hb)
  have HX := hide ((unhide HX).below hb)
  clear hb
  go_wp2_with fail
  refine (unhide CLI _ (unhide HQ)).mono ?_
  rintro e w14 ⟨rfl, hb⟩
  have HB := hide (below_on (unhide HB) hb)
  have HQ := hide ((unhide HQ).below hb)
  have HPC := hide (pcells (unhide HPC) hb)
  have HR1 := hide ((unhide HR1).below hb)
  have HX := hide ((unhide HX).below hb)
  clear hb
  clear CLI
  go_wp2_with fail
  refine (unhide CLS _ (unhide HQ)).mono ?_
  rintro e w15 ⟨rfl, hb⟩
  have HB := hide (below_on (unhide HB) hb)
  have HQ := hide ((unhide HQ).below hb)
  have HPC := hide (pcells (unhide HPC) hb)
  have HR1 := hide ((unhide HR1).below hb)
  have HX := hide ((unhide HX).below hb)
  clear hb
  clear CLS
  by_cases hrn : rn = 0
  case pos =>
    subst hrn
    rw [unhide HRB rfl] at CTL
    go_wp2_with fail
    refine (unhide CTL _ (unhide HR1) (unhide HB)).mono ?_
    rintro e w16 ⟨rfl, hb⟩
    have HB := hide (below_on (unhide HB) hb)
    have HQ := hide ((unhide HQ).below hb)
    have HPC := hide (pcells (unhide HPC) hb)
    have HR1 := hide ((unhide HR1).below hb)
    have HX := hide ((unhide HX).below hb)
    clear hb
    have HQ0 := hide (q0cell (unhide HQ) hn3)
    by_cases hz : N = 0
    case pos =>
      subst hz
      go_wp2_with fail
      refine wp_region_held_drew (S := fun _ => True) (by kernel_rfl) trivial (fun S0 => ?_)
      refine takeD (i := 0) (d := some 91) (v := _) rfl rfl (by kernel_rfl) (by kernel_rfl) (by kernel_rfl) (fun _ _ _ h => h) (Or.inl ⟨by rfl, fun wz hz => by (go_simp; try with_reducible rfl)⟩) trivial ?_
      try simp only [Act.put, List.setIfInBounds_toArray, List.set_cons_zero, List.set_cons_succ]
      refine takeD (i := 1) (d := some 92) (v := _) rfl rfl (by kernel_rfl) (by kernel_rfl) (by kernel_rfl) (fun _ _ _ h => h) (Or.inl ⟨by rfl, fun wz hz => by (go_simp; try with_reducible rfl)⟩) trivial ?_
      try simp only [Act.put, List.setIfInBounds_toArray, List.set_cons_zero, List.set_cons_succ]
      refine takeD (i := 2) (d := some 93) (v := _) rfl rfl (by kernel_rfl) (by kernel_rfl) (by kernel_rfl) (fun _ _ _ h => h) (Or.inl ⟨by rfl, fun wz hz => by (go_simp; try with_reducible rfl)⟩) trivial ?_
      try simp only [Act.put, List.setIfInBounds_toArray, List.set_cons_zero, List.set_cons_succ]
      refine takeD (i := 3) (d := some 94) (v := _) rfl rfl (by kernel_rfl) (by kernel_rfl) (by kernel_rfl) (fun _ _ _ h => h) (Or.inl ⟨by rfl, fun wz hz => by (go_simp; try with_reducible rfl)⟩) trivial ?_
      try simp only [Act.put, List.setIfInBounds_toArray, List.set_cons_zero, List.set_cons_succ]
      refine takeD (i := 4) (d := some 95) (v := _) rfl rfl (by kernel_rfl) (by kernel_rfl) (by kernel_rfl) (fun _ _ _ h => h) (Or.inr ⟨by rfl, rfl⟩) trivial ?_
      try simp only [Act.put, List.setIfInBounds_toArray, List.set_cons_zero, List.set_cons_succ]
      refine takeD (i := 5) (d := some 96) (v := _) rfl rfl (by kernel_rfl) (by kernel_rfl) (by kernel_rfl) (fun _ _ _ h => h) (Or.inr ⟨by rfl, rfl⟩) trivial ?_
      try simp only [Act.put, List.setIfInBounds_toArray, List.set_cons_zero, List.set_cons_succ]
      refine takeD (i := 6) (d := some 97) (v := _) rfl rfl (by kernel_rfl) (by kernel_rfl) (by kernel_rfl) (fun _ _ _ h => h) (Or.inr ⟨by rfl, rfl⟩) trivial ?_
      try simp only [Act.put, List.setIfInBounds_toArray, List.set_cons_zero, List.set_cons_succ]
      refine takeD (i := 7) (d := some 98) (v := _) rfl rfl (by kernel_rfl) (by kernel_rfl) (by kernel_rfl) (fun _ _ _ h => h) (Or.inr ⟨by rfl, rfl⟩) trivial ?_
      try simp only [Act.put, List.setIfInBounds_toArray, List.set_cons_zero, List.set_cons_succ]
      refine takeD (i := 8) (d := some 99) (v := _) rfl rfl (by kernel_rfl) (by kernel_rfl) (by kernel_rfl) (fun _ _ _ h => h) (Or.inr ⟨by rfl, rfl⟩) trivial ?_
      try simp only [Act.put, List.setIfInBounds_toArray, List.set_cons_zero, List.set_cons_succ]
      refine takeD (i := 9) (d := some 100) (v := _) rfl rfl (by kernel_rfl) (by kernel_rfl) (by kernel_rfl) (fun _ _ _ h => h) (Or.inr ⟨by rfl, rfl⟩) trivial ?_
      try simp only [Act.put, List.setIfInBounds_toArray, List.set_cons_zero, List.set_cons_succ]
      refine takeD (i := 10) (d := some 101) (v := _) rfl rfl (by kernel_rfl) (by kernel_rfl) (by kernel_rfl) (fun _ _ _ h => h) (Or.inr ⟨by rfl, rfl⟩) trivial ?_
      try simp only [Act.put, List.setIfInBounds_toArray, List.set_cons_zero, List.set_cons_succ]
      refine takeD (i := 11) (d := some 102) (v := _) rfl rfl (by kernel_rfl) (by kernel_rfl) (by kernel_rfl) (fun _ _ _ h => h) (Or.inr ⟨by rfl, rfl⟩) trivial ?_
      try simp only [Act.put, List.setIfInBounds_toArray, List.set_cons_zero, List.set_cons_succ]
      refine takeD (i := 12) (d := some 103) (v := _) rfl rfl (by kernel_rfl) (by kernel_rfl) (by kernel_rfl) (fun _ _ _ h => h) (Or.inr ⟨by rfl, rfl⟩) trivial ?_
      try simp only [Act.put, List.setIfInBounds_toArray, List.set_cons_zero, List.set_cons_succ]
      refine takeD (i := 13) (d := some 104) (v := _) rfl rfl (by kernel_rfl) (by kernel_rfl) (by kernel_rfl) (fun _ _ _ h => h) (Or.inr ⟨by rfl, rfl⟩) trivial ?_
      try simp only [Act.put, List.setIfInBounds_toArray, List.set_cons_zero, List.set_cons_succ]
      refine takeD (i := 14) (d := some 105) (v := _) rfl rfl (by kernel_rfl) (by kernel_rfl) (by kernel_rfl) (fun _ _ _ h => h) (Or.inr ⟨by rfl, rfl⟩) trivial ?_
      try simp only [Act.put, List.setIfInBounds_toArray, List.set_cons_zero, List.set_cons_succ]
      refine takeD (i := 15) (d := some 106) (v := _) rfl rfl (by kernel_rfl) (by kernel_rfl) (by kernel_rfl) (fun _ _ _ h => h) (Or.inr ⟨by rfl, rfl⟩) trivial ?_
      try simp only [Act.put, List.setIfInBounds_toArray, List.set_cons_zero, List.set_cons_succ]
      refine takeD (i := 16) (d := some 107) (v := _) rfl rfl (by kernel_rfl) (by kernel_rfl) (by kernel_rfl) (fun _ _ _ h => h) (Or.inr ⟨by rfl, rfl⟩) trivial ?_
      try simp only [Act.put, List.setIfInBounds_toArray, List.set_cons_zero, List.set_cons_succ]
      refine takeD (i := 17) (d := some 108) (v := _) rfl rfl (by kernel_rfl) (by kernel_rfl) (by kernel_rfl) (fun _ _ _ h => h) (Or.inr ⟨by rfl, rfl⟩) trivial ?_
      try simp only [Act.put, List.setIfInBounds_toArray, List.set_cons_zero, List.set_cons_succ]
      refine takeD (i := 18) (d := some 109) (v := _) rfl rfl (by kernel_rfl) (by kernel_rfl) (by kernel_rfl) (fun _ _ _ h => h) (Or.inr ⟨by rfl, rfl⟩) trivial ?_
      try simp only [Act.put, List.setIfInBounds_toArray, List.set_cons_zero, List.set_cons_succ]
      refine takeD (i := 19) (d := some 110) (v := _) rfl rfl (by kernel_rfl) (by kernel_rfl) (by kernel_rfl) (fun _ _ _ h => h) (Or.inr ⟨by rfl, rfl⟩) trivial ?_
      try simp only [Act.put, List.setIfInBounds_toArray, List.set_cons_zero, List.set_cons_succ]
      refine takeD (i := 20) (d := some 111) (v := _) rfl rfl (by kernel_rfl) (by kernel_rfl) (by kernel_rfl) (fun _ _ _ h => h) (Or.inr ⟨by rfl, rfl⟩) trivial ?_
      try simp only [Act.put, List.setIfInBounds_toArray, List.set_cons_zero, List.set_cons_succ]
      refine takeD (i := 21) (d := some 112) (v := _) rfl rfl (by kernel_rfl) (by kernel_rfl) (by kernel_rfl) (fun _ _ _ h => h) (Or.inr ⟨by rfl, rfl⟩) trivial ?_
      try simp only [Act.put, List.setIfInBounds_toArray, List.set_cons_zero, List.set_cons_succ]
      refine takeD (i := 22) (d := some 113) (v := _) rfl rfl (by kernel_rfl) (by kernel_rfl) (by kernel_rfl) (fun _ _ _ h => h) (Or.inl ⟨by rfl, fun wz hz => by (go_simp; try with_reducible rfl)⟩) trivial ?_
      try simp only [Act.put, List.setIfInBounds_toArray, List.set_cons_zero, List.set_cons_succ]
      refine wpAnyH_done (by kernel_rfl) ?_ _
      go_wp2
      go_loopw [13] (fun i wr => ∃ k : Nat, 1 ≤ k ∧ i = .int .i64 k ∧ Hid (Below w16.heap.size w16 wr)) (fun i _ => 0 - (intOf i).toNat)
      case atStart => exact ⟨1, Nat.le_refl _, rfl, hide (by first | exact Below.refl _ _ | exact (Below.refl _ _).drew)⟩
      case round =>
        obtain ⟨k, hk1, rfl, HBL⟩ := hrel
        have k2 : ¬ (k : Int) < 0 := by omega
        have HXL := hide ((unhide HX).below (unhide HBL))
        have HBW := hide (below_on (unhide HB) (unhide HBL))
        clear HBL
        go_wp2_with fail
        refine (unhide COS _ (unhide HXL)).mono ?_
        rintro e w20 ⟨rfl, hb⟩
        have HBW2 := hide (below_on (unhide HBW) hb)
        have HXL2 := hide ((unhide HXL).below hb)
        clear hb HXL HBW
        cases ok with
        | false =>
          obtain rfl : sx = [] := (unhide HXF).1 rfl
          have hbe : (bs []).toList.isEmpty = true := by rw [bs_empty]; simp
          go_wp2
          go_ret
          exact ⟨rfl, unhide HBW2⟩
        | true =>
          rw [(unhide HXF).2 rfl] at CRX
          simp only at CRX
          go_wp2_with fail
          refine (unhide CRX _ (unhide HBW2)).mono ?_
          rintro e w21 ⟨v3, rfl, ho, hb⟩
          obtain ⟨o3, c3, rfl, hr3, _⟩ := ho.row
          have HR3 := hide hr3
          have HX3 := hide ((unhide HXL2).below hb)
          have HBW3 := hide (below_on (unhide HBW2) hb)
          clear ho hr3 hb HXL2 HBW2
          go_wp2_with fail
          refine (sameQueues_same o3 (some ⟨xb, 0, none⟩) xs.length c3 xc xs _ (unhide HR3) (unhide HX3) (by omega)).mono ?_
          rintro e w22 ⟨rfl, hb⟩
          have HBW4 := hide (below_on (unhide HBW3) hb)
          clear hb
          go_wp2
          go_ret
          exact ⟨rfl, unhide HBW4⟩
    case neg =>
      obtain ⟨pg, hpo, hpg, hpc⟩ : ∃ g, po = some ⟨g, 0, none⟩ ∧ g < w16.heap.size ∧ ∀ j (hj : j < ph.length), w16.cell? ⟨g, j, none⟩ = some (.string (bs ph[j])) := by
        rcases unhide HPC with e | e
        · rw [unhide HN] at e; exact absurd e hz
        · exact e
      subst hpo
      obtain ⟨M, rfl⟩ : ∃ M, N = M + 1 := ⟨N - 1, by omega⟩
      obtain ⟨h0, r, hpr, hlast, hleaf⟩ := unhide HPF (fun e => by have := unhide HN; rw [e] at this; simp at this)
      have HLF := hide (show ∀ k (h1 : 1 ≤ k) (h : k < ph.length), leaf ls ph[k] = false from fun k h1 h => hleaf _ (by
        obtain ⟨j, rfl⟩ : ∃ j, k = j + 1 := ⟨k - 1, by omega⟩
        have e1 : ph[j + 1]? = r[j]? := by rw [hpr]; simp
        have e2 : r[j]? = some ph[j + 1] := by rw [← e1]; exact List.getElem?_eq_getElem h
        exact List.mem_of_getElem? e2))
      have HPCX := hide hpc
      obtain ⟨h0', hq0⟩ := unhide HQ0
      have hf : w16.cell? ⟨pg, 0, none⟩ = some (.string (bs nm)) := by have := hpc 0 (by rw [unhide HN]; omega); simp only [hpr, List.getElem_cons_zero] at this; exact this
      have hla : w16.cell? ⟨pg, M, none⟩ = some (.string (bs ls[0].name)) := by
        have h1 := hpc M (by rw [unhide HN]; omega)
        have h2 : ph[M]'(by rw [unhide HN]; omega) = ls[0].name := by
          have h3 := hlast
          rw [← hpr, List.getLast?_eq_getElem?, unhide HN] at h3
          simp only [Nat.add_sub_cancel] at h3
          exact (List.getElem?_eq_some_iff.1 h3).2
        rw [h2] at h1
        exact h1
      obtain ⟨q0, e0⟩ : ∃ x, bs ls[0].name = x := ⟨_, rfl⟩
      rw [e0] at hq0 hla
      clear hpr hlast hpc e0 hleaf
      go_wp2_with fail
      have hM1 : (0 : Int) < (M : Int) + 1 := by omega
      have hM2 : (0 : Int) ≤ (M : Int) := by omega
      have hM3 : M ≤ 1048576 := by have := unhide HN; omega
      have hM4 : (M : Int) ≤ 1048576 := by omega
      have hM6 : (M : Int) < (M : Int) + 1 := by omega
      have hn0 : 0 < n := by omega
      have hn1 : (0 : Int) < (n : Int) := by omega
      have hM5 : IntKind.i64.wrap (M : Int) = (M : Int) := by rw [IntKind.wrap_i64]; omega
      refine wp_region_held_drew (S := fun wx => wx.cell? ⟨pg, 0, none⟩ = some (.string (bs nm)) ∧ wx.cell? ⟨pg, M, none⟩ = some (.string q0) ∧ wx.cell? ⟨qb, 0, none⟩ = some (.string q0)) (by kernel_rfl) ⟨hf, hla, hq0⟩ (fun S0 => ?_)
      refine takeD (i := 0) (d := some 91) (v := _) rfl rfl (by kernel_rfl) (by kernel_rfl) (by kernel_rfl) (fun _ _ _ h => h) (Or.inl ⟨by rfl, fun wz hz => by (obtain ⟨r0, r1, r2⟩ := hz; go_simp; try with_reducible rfl)⟩) S0 ?_
      try simp only [Act.put, List.setIfInBounds_toArray, List.set_cons_zero, List.set_cons_succ]
      refine takeD (i := 1) (d := some 92) (v := _) rfl rfl (by kernel_rfl) (by kernel_rfl) (by kernel_rfl) (fun _ _ _ h => h) (Or.inl ⟨by rfl, fun wz hz => by (obtain ⟨r0, r1, r2⟩ := hz; go_simp; try with_reducible rfl)⟩) S0 ?_
      try simp only [Act.put, List.setIfInBounds_toArray, List.set_cons_zero, List.set_cons_succ]
      refine takeD (i := 2) (d := some 93) (v := .bool true) rfl rfl (by kernel_rfl) (by kernel_rfl) (by kernel_rfl) (fun _ _ _ h => h) (Or.inl ⟨by rfl, fun wz hz => by (obtain ⟨r0, r1, r2⟩ := hz; go_simp; try with_reducible rfl)⟩) S0 ?_
      try simp only [Act.put, List.setIfInBounds_toArray, List.set_cons_zero, List.set_cons_succ]
      refine takeD (i := 3) (d := some 94) (v := .bool true) rfl rfl (by kernel_rfl) (by kernel_rfl) (by kernel_rfl) (fun _ _ _ h => h) (Or.inl ⟨by rfl, fun wz hz => by (obtain ⟨r0, r1, r2⟩ := hz; go_simp; try with_reducible rfl)⟩) S0 ?_
      try simp only [Act.put, List.setIfInBounds_toArray, List.set_cons_zero, List.set_cons_succ]
      refine takeD (i := 4) (d := some 95) (v := _) rfl rfl (by kernel_rfl) (by kernel_rfl) (by kernel_rfl) (fun _ _ _ h => h) (Or.inl ⟨by rfl, fun wz hz => by (obtain ⟨r0, r1, r2⟩ := hz; go_simp; try with_reducible rfl)⟩) S0 ?_
      try simp only [Act.put, List.setIfInBounds_toArray, List.set_cons_zero, List.set_cons_succ]
      refine takeD (i := 5) (d := some 96) (v := _) rfl rfl (by kernel_rfl) (by kernel_rfl) (by kernel_rfl) (fun _ _ _ h => h) (Or.inl ⟨by rfl, fun wz hz => by (obtain ⟨r0, r1, r2⟩ := hz; go_simp; try with_reducible rfl)⟩) S0 ?_
      try simp only [Act.put, List.setIfInBounds_toArray, List.set_cons_zero, List.set_cons_succ]
      refine takeD (i := 6) (d := some 97) (v := _) rfl rfl (by kernel_rfl) (by kernel_rfl) (by kernel_rfl) (fun _ _ _ h => h) (Or.inl ⟨by rfl, fun wz hz => by (obtain ⟨r0, r1, r2⟩ := hz; go_simp; try with_reducible rfl)⟩) S0 ?_
      try simp only [Act.put, List.setIfInBounds_toArray, List.set_cons_zero, List.set_cons_succ]
      refine takeD (i := 7) (d := some 98) (v := _) rfl rfl (by kernel_rfl) (by kernel_rfl) (by kernel_rfl) (fun _ _ _ h => h) (Or.inl ⟨by rfl, fun wz hz => by (obtain ⟨r0, r1, r2⟩ := hz; go_simp; try with_reducible rfl)⟩) S0 ?_
      try simp only [Act.put, List.setIfInBounds_toArray, List.set_cons_zero, List.set_cons_succ]
      refine takeD (i := 8) (d := some 99) (v := .bool false) rfl rfl (by kernel_rfl) (by kernel_rfl) (by kernel_rfl) (fun _ _ _ h => h) (Or.inl ⟨by rfl, fun wz hz => by (obtain ⟨r0, r1, r2⟩ := hz; go_simp; try with_reducible rfl)⟩) S0 ?_
      try simp only [Act.put, List.setIfInBounds_toArray, List.set_cons_zero, List.set_cons_succ]
      refine takeD (i := 9) (d := some 100) (v := .bool false) rfl rfl (by kernel_rfl) (by kernel_rfl) (by kernel_rfl) (fun _ _ _ h => h) (Or.inl ⟨by rfl, fun wz hz => by (obtain ⟨r0, r1, r2⟩ := hz; go_simp; try with_reducible rfl)⟩) S0 ?_
      try simp only [Act.put, List.setIfInBounds_toArray, List.set_cons_zero, List.set_cons_succ]
      refine takeD (i := 10) (d := some 101) (v := _) rfl rfl (by kernel_rfl) (by kernel_rfl) (by kernel_rfl) (fun _ _ _ h => h) (Or.inl ⟨by rfl, fun wz hz => by (obtain ⟨r0, r1, r2⟩ := hz; go_simp; try with_reducible rfl)⟩) S0 ?_
      try simp only [Act.put, List.setIfInBounds_toArray, List.set_cons_zero, List.set_cons_succ]
      refine takeD (i := 11) (d := some 102) (v := _) rfl rfl (by kernel_rfl) (by kernel_rfl) (by kernel_rfl) (fun _ _ _ h => h) (Or.inl ⟨by rfl, fun wz hz => by (obtain ⟨r0, r1, r2⟩ := hz; go_simp; try with_reducible rfl)⟩) S0 ?_
      try simp only [Act.put, List.setIfInBounds_toArray, List.set_cons_zero, List.set_cons_succ]
      refine takeD (i := 12) (d := some 103) (v := _) rfl rfl (by kernel_rfl) (by kernel_rfl) (by kernel_rfl) (fun _ _ _ h => h) (Or.inl ⟨by rfl, fun wz hz => by (obtain ⟨r0, r1, r2⟩ := hz; go_simp; try with_reducible rfl)⟩) S0 ?_
      try simp only [Act.put, List.setIfInBounds_toArray, List.set_cons_zero, List.set_cons_succ]
      refine takeD (i := 13) (d := some 104) (v := _) rfl rfl (by kernel_rfl) (by kernel_rfl) (by kernel_rfl) (fun _ _ _ h => h) (Or.inl ⟨by rfl, fun wz hz => by (obtain ⟨r0, r1, r2⟩ := hz; go_simp; try with_reducible rfl)⟩) S0 ?_
      try simp only [Act.put, List.setIfInBounds_toArray, List.set_cons_zero, List.set_cons_succ]
      refine takeD (i := 14) (d := some 105) (v := _) rfl rfl (by kernel_rfl) (by kernel_rfl) (by kernel_rfl) (fun _ _ _ h => h) (Or.inl ⟨by rfl, fun wz hz => by (obtain ⟨r0, r1, r2⟩ := hz; go_simp; try with_reducible rfl)⟩) S0 ?_
      try simp only [Act.put, List.setIfInBounds_toArray, List.set_cons_zero, List.set_cons_succ]
      refine takeD (i := 15) (d := some 106) (v := _) rfl rfl (by kernel_rfl) (by kernel_rfl) (by kernel_rfl) (fun _ _ _ h => h) (Or.inl ⟨by rfl, fun wz hz => by (obtain ⟨r0, r1, r2⟩ := hz; go_simp; try with_reducible rfl)⟩) S0 ?_
      try simp only [Act.put, List.setIfInBounds_toArray, List.set_cons_zero, List.set_cons_succ]
      refine takeD (i := 16) (d := some 107) (v := _) rfl rfl (by kernel_rfl) (by kernel_rfl) (by kernel_rfl) (fun _ _ _ h => h) (Or.inl ⟨by rfl, fun wz hz => by (obtain ⟨r0, r1, r2⟩ := hz; go_simp; try with_reducible rfl)⟩) S0 ?_
      try simp only [Act.put, List.setIfInBounds_toArray, List.set_cons_zero, List.set_cons_succ]
      refine takeD (i := 17) (d := some 108) (v := _) rfl rfl (by kernel_rfl) (by kernel_rfl) (by kernel_rfl) (fun _ _ _ h => h) (Or.inl ⟨by rfl, fun wz hz => by (obtain ⟨r0, r1, r2⟩ := hz; go_simp; try with_reducible rfl)⟩) S0 ?_
      try simp only [Act.put, List.setIfInBounds_toArray, List.set_cons_zero, List.set_cons_succ]
      refine takeD (i := 18) (d := some 109) (v := _) rfl rfl (by kernel_rfl) (by kernel_rfl) (by kernel_rfl) (fun _ _ _ h => h) (Or.inl ⟨by rfl, fun wz hz => by (obtain ⟨r0, r1, r2⟩ := hz; go_simp; try with_reducible rfl)⟩) S0 ?_
      try simp only [Act.put, List.setIfInBounds_toArray, List.set_cons_zero, List.set_cons_succ]
      refine takeD (i := 19) (d := some 110) (v := _) rfl rfl (by kernel_rfl) (by kernel_rfl) (by kernel_rfl) (fun _ _ _ h => h) (Or.inl ⟨by rfl, fun wz hz => by (obtain ⟨r0, r1, r2⟩ := hz; go_simp; try with_reducible rfl)⟩) S0 ?_
      try simp only [Act.put, List.setIfInBounds_toArray, List.set_cons_zero, List.set_cons_succ]
      refine takeD (i := 20) (d := some 111) (v := .bool false) rfl rfl (by kernel_rfl) (by kernel_rfl) (by kernel_rfl) (fun _ _ _ h => h) (Or.inl ⟨by rfl, fun wz hz => by (obtain ⟨r0, r1, r2⟩ := hz; go_simp; try with_reducible rfl)⟩) S0 ?_
      try simp only [Act.put, List.setIfInBounds_toArray, List.set_cons_zero, List.set_cons_succ]
      refine takeD (i := 21) (d := some 112) (v := .bool false) rfl rfl (by kernel_rfl) (by kernel_rfl) (by kernel_rfl) (fun _ _ _ h => h) (Or.inl ⟨by rfl, fun wz hz => by (obtain ⟨r0, r1, r2⟩ := hz; go_simp; try with_reducible rfl)⟩) S0 ?_
      try simp only [Act.put, List.setIfInBounds_toArray, List.set_cons_zero, List.set_cons_succ]
      refine takeD (i := 22) (d := some 113) (v := .bool false) rfl rfl (by kernel_rfl) (by kernel_rfl) (by kernel_rfl) (fun _ _ _ h => h) (Or.inl ⟨by rfl, fun wz hz => by (obtain ⟨r0, r1, r2⟩ := hz; go_simp; try with_reducible rfl)⟩) S0 ?_
      try simp only [Act.put, List.setIfInBounds_toArray, List.set_cons_zero, List.set_cons_succ]
      refine wpAnyH_done (by kernel_rfl) ?_ _
      clear hf hla hq0 S0
      go_wp2
      go_loopw [13] (fun i wr => ∃ k : Nat, 1 ≤ k ∧ i = .int .i64 k ∧ Hid (Below w16.heap.size w16 wr)) (fun i _ => (M + 1) - (intOf i).toNat)
      case atStart => exact ⟨1, Nat.le_refl _, rfl, hide (by first | exact Below.refl _ _ | exact (Below.refl _ _).drew)⟩
      case round =>
        obtain ⟨k, hk1, rfl, HBL⟩ := hrel
        by_cases hlt : k < M + 1
        case pos =>
          have hkp : k < ph.length := by rw [unhide HN]; exact hlt
          have hck := ((unhide HBL).cell hpg).trans (unhide HPCX k hkp)
          have hlfx := unhide HLF k hk1 hkp
          obtain ⟨x, hx⟩ : ∃ x, ph[k] = x := ⟨_, rfl⟩
          rw [hx] at hck hlfx
          have k0 : (0 : Int) ≤ k := by omega
          have k1 : (k : Int) < (M : Int) + 1 := by omega
          clear hx hkp
          go_wp2_with fail
          refine (unhide CLX x _ ((unhide HQ).below (unhide HBL))).mono ?_
          rintro e wl ⟨rfl, hb⟩
          rw [hlfx]
          have HBL2 := hide (below_on (unhide HBL) hb)
          clear hb HBL hck hlfx
          go_wp2
          go_roundw
          case rel => exact ⟨k + 1, by omega, by go_num, HBL2⟩
          case measure => simp [intOf]; omega
        case neg =>
          have k2 : ¬ (k : Int) < (M : Int) + 1 := by omega
          have HXL := hide ((unhide HX).below (unhide HBL))
          have HBW := hide (below_on (unhide HB) (unhide HBL))
          clear HBL
          go_wp2_with fail
          refine (unhide COS _ (unhide HXL)).mono ?_
          rintro e w20 ⟨rfl, hb⟩
          have HBW2 := hide (below_on (unhide HBW) hb)
          have HXL2 := hide ((unhide HXL).below hb)
          clear hb HXL HBW
          cases ok with
          | false =>
            obtain rfl : sx = [] := (unhide HXF).1 rfl
            have hbe : (bs []).toList.isEmpty = true := by rw [bs_empty]; simp
            go_wp2
            go_ret
            exact ⟨rfl, unhide HBW2⟩
          | true =>
            rw [(unhide HXF).2 rfl] at CRX
            simp only at CRX
            go_wp2_with fail
            refine (unhide CRX _ (unhide HBW2)).mono ?_
            rintro e w21 ⟨v3, rfl, ho, hb⟩
            obtain ⟨o3, c3, rfl, hr3, _⟩ := ho.row
            have HR3 := hide hr3
            have HX3 := hide ((unhide HXL2).below hb)
            have HBW3 := hide (below_on (unhide HBW2) hb)
            clear ho hr3 hb HXL2 HBW2
            go_wp2_with fail
            refine (sameQueues_same o3 (some ⟨xb, 0, none⟩) xs.length c3 xc xs _ (unhide HR3) (unhide HX3) (by omega)).mono ?_
            rintro e w22 ⟨rfl, hb⟩
            have HBW4 := hide (below_on (unhide HBW3) hb)
            clear hb
            go_wp2
            go_ret
            exact ⟨rfl, unhide HBW4⟩
  case neg =>
    have hrn2 : ¬ ((rn : Int) = 0) := by omega
    have HQ0 := hide (q0cell (unhide HQ) hn3)
    by_cases hz : N = 0
    case pos =>
      subst hz
      go_wp2_with fail
      refine wp_region_held_drew (S := fun _ => True) (by kernel_rfl) trivial (fun S0 => ?_)
      refine takeD (i := 0) (d := some 91) (v := _) rfl rfl (by kernel_rfl) (by kernel_rfl) (by kernel_rfl) (fun _ _ _ h => h) (Or.inl ⟨by rfl, fun wz hz => by (go_simp; try with_reducible rfl)⟩) trivial ?_
      try simp only [Act.put, List.setIfInBounds_toArray, List.set_cons_zero, List.set_cons_succ]
      refine takeD (i := 1) (d := some 92) (v := _) rfl rfl (by kernel_rfl) (by kernel_rfl) (by kernel_rfl) (fun _ _ _ h => h) (Or.inl ⟨by rfl, fun wz hz => by (go_simp; try with_reducible rfl)⟩) trivial ?_
      try simp only [Act.put, List.setIfInBounds_toArray, List.set_cons_zero, List.set_cons_succ]
      refine takeD (i := 2) (d := some 93) (v := _) rfl rfl (by kernel_rfl) (by kernel_rfl) (by kernel_rfl) (fun _ _ _ h => h) (Or.inl ⟨by rfl, fun wz hz => by (go_simp; try with_reducible rfl)⟩) trivial ?_
      try simp only [Act.put, List.setIfInBounds_toArray, List.set_cons_zero, List.set_cons_succ]
      refine takeD (i := 3) (d := some 94) (v := _) rfl rfl (by kernel_rfl) (by kernel_rfl) (by kernel_rfl) (fun _ _ _ h => h) (Or.inl ⟨by rfl, fun wz hz => by (go_simp; try with_reducible rfl)⟩) trivial ?_
      try simp only [Act.put, List.setIfInBounds_toArray, List.set_cons_zero, List.set_cons_succ]
      refine takeD (i := 4) (d := some 95) (v := _) rfl rfl (by kernel_rfl) (by kernel_rfl) (by kernel_rfl) (fun _ _ _ h => h) (Or.inr ⟨by rfl, rfl⟩) trivial ?_
      try simp only [Act.put, List.setIfInBounds_toArray, List.set_cons_zero, List.set_cons_succ]
      refine takeD (i := 5) (d := some 96) (v := _) rfl rfl (by kernel_rfl) (by kernel_rfl) (by kernel_rfl) (fun _ _ _ h => h) (Or.inr ⟨by rfl, rfl⟩) trivial ?_
      try simp only [Act.put, List.setIfInBounds_toArray, List.set_cons_zero, List.set_cons_succ]
      refine takeD (i := 6) (d := some 97) (v := _) rfl rfl (by kernel_rfl) (by kernel_rfl) (by kernel_rfl) (fun _ _ _ h => h) (Or.inr ⟨by rfl, rfl⟩) trivial ?_
      try simp only [Act.put, List.setIfInBounds_toArray, List.set_cons_zero, List.set_cons_succ]
      refine takeD (i := 7) (d := some 98) (v := _) rfl rfl (by kernel_rfl) (by kernel_rfl) (by kernel_rfl) (fun _ _ _ h => h) (Or.inr ⟨by rfl, rfl⟩) trivial ?_
      try simp only [Act.put, List.setIfInBounds_toArray, List.set_cons_zero, List.set_cons_succ]
      refine takeD (i := 8) (d := some 99) (v := _) rfl rfl (by kernel_rfl) (by kernel_rfl) (by kernel_rfl) (fun _ _ _ h => h) (Or.inr ⟨by rfl, rfl⟩) trivial ?_
      try simp only [Act.put, List.setIfInBounds_toArray, List.set_cons_zero, List.set_cons_succ]
      refine takeD (i := 9) (d := some 100) (v := _) rfl rfl (by kernel_rfl) (by kernel_rfl) (by kernel_rfl) (fun _ _ _ h => h) (Or.inr ⟨by rfl, rfl⟩) trivial ?_
      try simp only [Act.put, List.setIfInBounds_toArray, List.set_cons_zero, List.set_cons_succ]
      refine takeD (i := 10) (d := some 101) (v := _) rfl rfl (by kernel_rfl) (by kernel_rfl) (by kernel_rfl) (fun _ _ _ h => h) (Or.inr ⟨by rfl, rfl⟩) trivial ?_
      try simp only [Act.put, List.setIfInBounds_toArray, List.set_cons_zero, List.set_cons_succ]
      refine takeD (i := 11) (d := some 102) (v := _) rfl rfl (by kernel_rfl) (by kernel_rfl) (by kernel_rfl) (fun _ _ _ h => h) (Or.inr ⟨by rfl, rfl⟩) trivial ?_
      try simp only [Act.put, List.setIfInBounds_toArray, List.set_cons_zero, List.set_cons_succ]
      refine takeD (i := 12) (d := some 103) (v := _) rfl rfl (by kernel_rfl) (by kernel_rfl) (by kernel_rfl) (fun _ _ _ h => h) (Or.inr ⟨by rfl, rfl⟩) trivial ?_
      try simp only [Act.put, List.setIfInBounds_toArray, List.set_cons_zero, List.set_cons_succ]
      refine takeD (i := 13) (d := some 104) (v := _) rfl rfl (by kernel_rfl) (by kernel_rfl) (by kernel_rfl) (fun _ _ _ h => h) (Or.inr ⟨by rfl, rfl⟩) trivial ?_
      try simp only [Act.put, List.setIfInBounds_toArray, List.set_cons_zero, List.set_cons_succ]
      refine takeD (i := 14) (d := some 105) (v := _) rfl rfl (by kernel_rfl) (by kernel_rfl) (by kernel_rfl) (fun _ _ _ h => h) (Or.inr ⟨by rfl, rfl⟩) trivial ?_
      try simp only [Act.put, List.setIfInBounds_toArray, List.set_cons_zero, List.set_cons_succ]
      refine takeD (i := 15) (d := some 106) (v := _) rfl rfl (by kernel_rfl) (by kernel_rfl) (by kernel_rfl) (fun _ _ _ h => h) (Or.inr ⟨by rfl, rfl⟩) trivial ?_
      try simp only [Act.put, List.setIfInBounds_toArray, List.set_cons_zero, List.set_cons_succ]
      refine takeD (i := 16) (d := some 107) (v := _) rfl rfl (by kernel_rfl) (by kernel_rfl) (by kernel_rfl) (fun _ _ _ h => h) (Or.inr ⟨by rfl, rfl⟩) trivial ?_
      try simp only [Act.put, List.setIfInBounds_toArray, List.set_cons_zero, List.set_cons_succ]
      refine takeD (i := 17) (d := some 108) (v := _) rfl rfl (by kernel_rfl) (by kernel_rfl) (by kernel_rfl) (fun _ _ _ h => h) (Or.inr ⟨by rfl, rfl⟩) trivial ?_
      try simp only [Act.put, List.setIfInBounds_toArray, List.set_cons_zero, List.set_cons_succ]
      refine takeD (i := 18) (d := some 109) (v := _) rfl rfl (by kernel_rfl) (by kernel_rfl) (by kernel_rfl) (fun _ _ _ h => h) (Or.inr ⟨by rfl, rfl⟩) trivial ?_
      try simp only [Act.put, List.setIfInBounds_toArray, List.set_cons_zero, List.set_cons_succ]
      refine takeD (i := 19) (d := some 110) (v := _) rfl rfl (by kernel_rfl) (by kernel_rfl) (by kernel_rfl) (fun _ _ _ h => h) (Or.inr ⟨by rfl, rfl⟩) trivial ?_
      try simp only [Act.put, List.setIfInBounds_toArray, List.set_cons_zero, List.set_cons_succ]
      refine takeD (i := 20) (d := some 111) (v := _) rfl rfl (by kernel_rfl) (by kernel_rfl) (by kernel_rfl) (fun _ _ _ h => h) (Or.inr ⟨by rfl, rfl⟩) trivial ?_
      try simp only [Act.put, List.setIfInBounds_toArray, List.set_cons_zero, List.set_cons_succ]
      refine takeD (i := 21) (d := some 112) (v := _) rfl rfl (by kernel_rfl) (by kernel_rfl) (by kernel_rfl) (fun _ _ _ h => h) (Or.inr ⟨by rfl, rfl⟩) trivial ?_
      try simp only [Act.put, List.setIfInBounds_toArray, List.set_cons_zero, List.set_cons_succ]
      refine takeD (i := 22) (d := some 113) (v := _) rfl rfl (by kernel_rfl) (by kernel_rfl) (by kernel_rfl) (fun _ _ _ h => h) (Or.inl ⟨by rfl, fun wz hz => by (go_simp; try with_reducible rfl)⟩) trivial ?_
      try simp only [Act.put, List.setIfInBounds_toArray, List.set_cons_zero, List.set_cons_succ]
      refine wpAnyH_done (by kernel_rfl) ?_ _
      go_wp2
      go_loopw [13] (fun i wr => ∃ k : Nat, 1 ≤ k ∧ i = .int .i64 k ∧ Hid (Below w15.heap.size w15 wr)) (fun i _ => 0 - (intOf i).toNat)
      case atStart => exact ⟨1, Nat.le_refl _, rfl, hide (by first | exact Below.refl _ _ | exact (Below.refl _ _).drew)⟩
      case round =>
        obtain ⟨k, hk1, rfl, HBL⟩ := hrel
        have k2 : ¬ (k : Int) < 0 := by omega
        have HXL := hide ((unhide HX).below (unhide HBL))
        have HBW := hide (below_on (unhide HB) (unhide HBL))
        clear HBL
        go_wp2_with fail
        refine (unhide COS _ (unhide HXL)).mono ?_
        rintro e w20 ⟨rfl, hb⟩
        have HBW2 := hide (below_on (unhide HBW) hb)
        have HXL2 := hide ((unhide HXL).below hb)
        clear hb HXL HBW
        cases ok with
        | false =>
          obtain rfl : sx = [] := (unhide HXF).1 rfl
          have hbe : (bs []).toList.isEmpty = true := by rw [bs_empty]; simp
          go_wp2
          go_ret
          exact ⟨rfl, unhide HBW2⟩
        | true =>
          rw [(unhide HXF).2 rfl] at CRX
          simp only at CRX
          go_wp2_with fail
          refine (unhide CRX _ (unhide HBW2)).mono ?_
          rintro e w21 ⟨v3, rfl, ho, hb⟩
          obtain ⟨o3, c3, rfl, hr3, _⟩ := ho.row
          have HR3 := hide hr3
          have HX3 := hide ((unhide HXL2).below hb)
          have HBW3 := hide (below_on (unhide HBW2) hb)
          clear ho hr3 hb HXL2 HBW2
          go_wp2_with fail
          refine (sameQueues_same o3 (some ⟨xb, 0, none⟩) xs.length c3 xc xs _ (unhide HR3) (unhide HX3) (by omega)).mono ?_
          rintro e w22 ⟨rfl, hb⟩
          have HBW4 := hide (below_on (unhide HBW3) hb)
          clear hb
          go_wp2
          go_ret
          exact ⟨rfl, unhide HBW4⟩
    case neg =>
      obtain ⟨pg, hpo, hpg, hpc⟩ : ∃ g, po = some ⟨g, 0, none⟩ ∧ g < w15.heap.size ∧ ∀ j (hj : j < ph.length), w15.cell? ⟨g, j, none⟩ = some (.string (bs ph[j])) := by
        rcases unhide HPC with e | e
        · rw [unhide HN] at e; exact absurd e hz
        · exact e
      subst hpo
      obtain ⟨M, rfl⟩ : ∃ M, N = M + 1 := ⟨N - 1, by omega⟩
      obtain ⟨h0, r, hpr, hlast, hleaf⟩ := unhide HPF (fun e => by have := unhide HN; rw [e] at this; simp at this)
      have HLF := hide (show ∀ k (h1 : 1 ≤ k) (h : k < ph.length), leaf ls ph[k] = false from fun k h1 h => hleaf _ (by
        obtain ⟨j, rfl⟩ : ∃ j, k = j + 1 := ⟨k - 1, by omega⟩
        have e1 : ph[j + 1]? = r[j]? := by rw [hpr]; simp
        have e2 : r[j]? = some ph[j + 1] := by rw [← e1]; exact List.getElem?_eq_getElem h
        exact List.mem_of_getElem? e2))
      have HPCX := hide hpc
      obtain ⟨h0', hq0⟩ := unhide HQ0
      have hf : w15.cell? ⟨pg, 0, none⟩ = some (.string (bs nm)) := by have := hpc 0 (by rw [unhide HN]; omega); simp only [hpr, List.getElem_cons_zero] at this; exact this
      have hla : w15.cell? ⟨pg, M, none⟩ = some (.string (bs ls[0].name)) := by
        have h1 := hpc M (by rw [unhide HN]; omega)
        have h2 : ph[M]'(by rw [unhide HN]; omega) = ls[0].name := by
          have h3 := hlast
          rw [← hpr, List.getLast?_eq_getElem?, unhide HN] at h3
          simp only [Nat.add_sub_cancel] at h3
          exact (List.getElem?_eq_some_iff.1 h3).2
        rw [h2] at h1
        exact h1
      obtain ⟨q0, e0⟩ : ∃ x, bs ls[0].name = x := ⟨_, rfl⟩
      rw [e0] at hq0 hla
      clear hpr hlast hpc e0 hleaf
      go_wp2_with fail
      have hM1 : (0 : Int) < (M : Int) + 1 := by omega
      have hM2 : (0 : Int) ≤ (M : Int) := by omega
      have hM3 : M ≤ 1048576 := by have := unhide HN; omega
      have hM4 : (M : Int) ≤ 1048576 := by omega
      have hM6 : (M : Int) < (M : Int) + 1 := by omega
      have hn0 : 0 < n := by omega
      have hn1 : (0 : Int) < (n : Int) := by omega
      have hM5 : IntKind.i64.wrap (M : Int) = (M : Int) := by rw [IntKind.wrap_i64]; omega
      refine wp_region_held_drew (S := fun wx => wx.cell? ⟨pg, 0, none⟩ = some (.string (bs nm)) ∧ wx.cell? ⟨pg, M, none⟩ = some (.string q0) ∧ wx.cell? ⟨qb, 0, none⟩ = some (.string q0)) (by kernel_rfl) ⟨hf, hla, hq0⟩ (fun S0 => ?_)
      refine takeD (i := 0) (d := some 91) (v := _) rfl rfl (by kernel_rfl) (by kernel_rfl) (by kernel_rfl) (fun _ _ _ h => h) (Or.inl ⟨by rfl, fun wz hz => by (obtain ⟨r0, r1, r2⟩ := hz; go_simp; try with_reducible rfl)⟩) S0 ?_
      try simp only [Act.put, List.setIfInBounds_toArray, List.set_cons_zero, List.set_cons_succ]
      refine takeD (i := 1) (d := some 92) (v := _) rfl rfl (by kernel_rfl) (by kernel_rfl) (by kernel_rfl) (fun _ _ _ h => h) (Or.inl ⟨by rfl, fun wz hz => by (obtain ⟨r0, r1, r2⟩ := hz; go_simp; try with_reducible rfl)⟩) S0 ?_
      try simp only [Act.put, List.setIfInBounds_toArray, List.set_cons_zero, List.set_cons_succ]
      refine takeD (i := 2) (d := some 93) (v := .bool true) rfl rfl (by kernel_rfl) (by kernel_rfl) (by kernel_rfl) (fun _ _ _ h => h) (Or.inl ⟨by rfl, fun wz hz => by (obtain ⟨r0, r1, r2⟩ := hz; go_simp; try with_reducible rfl)⟩) S0 ?_
      try simp only [Act.put, List.setIfInBounds_toArray, List.set_cons_zero, List.set_cons_succ]
      refine takeD (i := 3) (d := some 94) (v := .bool true) rfl rfl (by kernel_rfl) (by kernel_rfl) (by kernel_rfl) (fun _ _ _ h => h) (Or.inl ⟨by rfl, fun wz hz => by (obtain ⟨r0, r1, r2⟩ := hz; go_simp; try with_reducible rfl)⟩) S0 ?_
      try simp only [Act.put, List.setIfInBounds_toArray, List.set_cons_zero, List.set_cons_succ]
      refine takeD (i := 4) (d := some 95) (v := _) rfl rfl (by kernel_rfl) (by kernel_rfl) (by kernel_rfl) (fun _ _ _ h => h) (Or.inl ⟨by rfl, fun wz hz => by (obtain ⟨r0, r1, r2⟩ := hz; go_simp; try with_reducible rfl)⟩) S0 ?_
      try simp only [Act.put, List.setIfInBounds_toArray, List.set_cons_zero, List.set_cons_succ]
      refine takeD (i := 5) (d := some 96) (v := _) rfl rfl (by kernel_rfl) (by kernel_rfl) (by kernel_rfl) (fun _ _ _ h => h) (Or.inl ⟨by rfl, fun wz hz => by (obtain ⟨r0, r1, r2⟩ := hz; go_simp; try with_reducible rfl)⟩) S0 ?_
      try simp only [Act.put, List.setIfInBounds_toArray, List.set_cons_zero, List.set_cons_succ]
      refine takeD (i := 6) (d := some 97) (v := _) rfl rfl (by kernel_rfl) (by kernel_rfl) (by kernel_rfl) (fun _ _ _ h => h) (Or.inl ⟨by rfl, fun wz hz => by (obtain ⟨r0, r1, r2⟩ := hz; go_simp; try with_reducible rfl)⟩) S0 ?_
      try simp only [Act.put, List.setIfInBounds_toArray, List.set_cons_zero, List.set_cons_succ]
      refine takeD (i := 7) (d := some 98) (v := _) rfl rfl (by kernel_rfl) (by kernel_rfl) (by kernel_rfl) (fun _ _ _ h => h) (Or.inl ⟨by rfl, fun wz hz => by (obtain ⟨r0, r1, r2⟩ := hz; go_simp; try with_reducible rfl)⟩) S0 ?_
      try simp only [Act.put, List.setIfInBounds_toArray, List.set_cons_zero, List.set_cons_succ]
      refine takeD (i := 8) (d := some 99) (v := .bool false) rfl rfl (by kernel_rfl) (by kernel_rfl) (by kernel_rfl) (fun _ _ _ h => h) (Or.inl ⟨by rfl, fun wz hz => by (obtain ⟨r0, r1, r2⟩ := hz; go_simp; try with_reducible rfl)⟩) S0 ?_
      try simp only [Act.put, List.setIfInBounds_toArray, List.set_cons_zero, List.set_cons_succ]
      refine takeD (i := 9) (d := some 100) (v := .bool false) rfl rfl (by kernel_rfl) (by kernel_rfl) (by kernel_rfl) (fun _ _ _ h => h) (Or.inl ⟨by rfl, fun wz hz => by (obtain ⟨r0, r1, r2⟩ := hz; go_simp; try with_reducible rfl)⟩) S0 ?_
      try simp only [Act.put, List.setIfInBounds_toArray, List.set_cons_zero, List.set_cons_succ]
      refine takeD (i := 10) (d := some 101) (v := _) rfl rfl (by kernel_rfl) (by kernel_rfl) (by kernel_rfl) (fun _ _ _ h => h) (Or.inl ⟨by rfl, fun wz hz => by (obtain ⟨r0, r1, r2⟩ := hz; go_simp; try with_reducible rfl)⟩) S0 ?_
      try simp only [Act.put, List.setIfInBounds_toArray, List.set_cons_zero, List.set_cons_succ]
      refine takeD (i := 11) (d := some 102) (v := _) rfl rfl (by kernel_rfl) (by kernel_rfl) (by kernel_rfl) (fun _ _ _ h => h) (Or.inl ⟨by rfl, fun wz hz => by (obtain ⟨r0, r1, r2⟩ := hz; go_simp; try with_reducible rfl)⟩) S0 ?_
      try simp only [Act.put, List.setIfInBounds_toArray, List.set_cons_zero, List.set_cons_succ]
      refine takeD (i := 12) (d := some 103) (v := _) rfl rfl (by kernel_rfl) (by kernel_rfl) (by kernel_rfl) (fun _ _ _ h => h) (Or.inl ⟨by rfl, fun wz hz => by (obtain ⟨r0, r1, r2⟩ := hz; go_simp; try with_reducible rfl)⟩) S0 ?_
      try simp only [Act.put, List.setIfInBounds_toArray, List.set_cons_zero, List.set_cons_succ]
      refine takeD (i := 13) (d := some 104) (v := _) rfl rfl (by kernel_rfl) (by kernel_rfl) (by kernel_rfl) (fun _ _ _ h => h) (Or.inl ⟨by rfl, fun wz hz => by (obtain ⟨r0, r1, r2⟩ := hz; go_simp; try with_reducible rfl)⟩) S0 ?_
      try simp only [Act.put, List.setIfInBounds_toArray, List.set_cons_zero, List.set_cons_succ]
      refine takeD (i := 14) (d := some 105) (v := _) rfl rfl (by kernel_rfl) (by kernel_rfl) (by kernel_rfl) (fun _ _ _ h => h) (Or.inl ⟨by rfl, fun wz hz => by (obtain ⟨r0, r1, r2⟩ := hz; go_simp; try with_reducible rfl)⟩) S0 ?_
      try simp only [Act.put, List.setIfInBounds_toArray, List.set_cons_zero, List.set_cons_succ]
      refine takeD (i := 15) (d := some 106) (v := _) rfl rfl (by kernel_rfl) (by kernel_rfl) (by kernel_rfl) (fun _ _ _ h => h) (Or.inl ⟨by rfl, fun wz hz => by (obtain ⟨r0, r1, r2⟩ := hz; go_simp; try with_reducible rfl)⟩) S0 ?_
      try simp only [Act.put, List.setIfInBounds_toArray, List.set_cons_zero, List.set_cons_succ]
      refine takeD (i := 16) (d := some 107) (v := _) rfl rfl (by kernel_rfl) (by kernel_rfl) (by kernel_rfl) (fun _ _ _ h => h) (Or.inl ⟨by rfl, fun wz hz => by (obtain ⟨r0, r1, r2⟩ := hz; go_simp; try with_reducible rfl)⟩) S0 ?_
      try simp only [Act.put, List.setIfInBounds_toArray, List.set_cons_zero, List.set_cons_succ]
      refine takeD (i := 17) (d := some 108) (v := _) rfl rfl (by kernel_rfl) (by kernel_rfl) (by kernel_rfl) (fun _ _ _ h => h) (Or.inl ⟨by rfl, fun wz hz => by (obtain ⟨r0, r1, r2⟩ := hz; go_simp; try with_reducible rfl)⟩) S0 ?_
      try simp only [Act.put, List.setIfInBounds_toArray, List.set_cons_zero, List.set_cons_succ]
      refine takeD (i := 18) (d := some 109) (v := _) rfl rfl (by kernel_rfl) (by kernel_rfl) (by kernel_rfl) (fun _ _ _ h => h) (Or.inl ⟨by rfl, fun wz hz => by (obtain ⟨r0, r1, r2⟩ := hz; go_simp; try with_reducible rfl)⟩) S0 ?_
      try simp only [Act.put, List.setIfInBounds_toArray, List.set_cons_zero, List.set_cons_succ]
      refine takeD (i := 19) (d := some 110) (v := _) rfl rfl (by kernel_rfl) (by kernel_rfl) (by kernel_rfl) (fun _ _ _ h => h) (Or.inl ⟨by rfl, fun wz hz => by (obtain ⟨r0, r1, r2⟩ := hz; go_simp; try with_reducible rfl)⟩) S0 ?_
      try simp only [Act.put, List.setIfInBounds_toArray, List.set_cons_zero, List.set_cons_succ]
      refine takeD (i := 20) (d := some 111) (v := .bool false) rfl rfl (by kernel_rfl) (by kernel_rfl) (by kernel_rfl) (fun _ _ _ h => h) (Or.inl ⟨by rfl, fun wz hz => by (obtain ⟨r0, r1, r2⟩ := hz; go_simp; try with_reducible rfl)⟩) S0 ?_
      try simp only [Act.put, List.setIfInBounds_toArray, List.set_cons_zero, List.set_cons_succ]
      refine takeD (i := 21) (d := some 112) (v := .bool false) rfl rfl (by kernel_rfl) (by kernel_rfl) (by kernel_rfl) (fun _ _ _ h => h) (Or.inl ⟨by rfl, fun wz hz => by (obtain ⟨r0, r1, r2⟩ := hz; go_simp; try with_reducible rfl)⟩) S0 ?_
      try simp only [Act.put, List.setIfInBounds_toArray, List.set_cons_zero, List.set_cons_succ]
      refine takeD (i := 22) (d := some 113) (v := .bool false) rfl rfl (by kernel_rfl) (by kernel_rfl) (by kernel_rfl) (fun _ _ _ h => h) (Or.inl ⟨by rfl, fun wz hz => by (obtain ⟨r0, r1, r2⟩ := hz; go_simp; try with_reducible rfl)⟩) S0 ?_
      try simp only [Act.put, List.setIfInBounds_toArray, List.set_cons_zero, List.set_cons_succ]
      refine wpAnyH_done (by kernel_rfl) ?_ _
      clear hf hla hq0 S0
      go_wp2
      go_loopw [13] (fun i wr => ∃ k : Nat, 1 ≤ k ∧ i = .int .i64 k ∧ Hid (Below w15.heap.size w15 wr)) (fun i _ => (M + 1) - (intOf i).toNat)
      case atStart => exact ⟨1, Nat.le_refl _, rfl, hide (by first | exact Below.refl _ _ | exact (Below.refl _ _).drew)⟩
      case round =>
        obtain ⟨k, hk1, rfl, HBL⟩ := hrel
        by_cases hlt : k < M + 1
        case pos =>
          have hkp : k < ph.length := by rw [unhide HN]; exact hlt
          have hck := ((unhide HBL).cell hpg).trans (unhide HPCX k hkp)
          have hlfx := unhide HLF k hk1 hkp
          obtain ⟨x, hx⟩ : ∃ x, ph[k] = x := ⟨_, rfl⟩
          rw [hx] at hck hlfx
          have k0 : (0 : Int) ≤ k := by omega
          have k1 : (k : Int) < (M : Int) + 1 := by omega
          clear hx hkp
          go_wp2_with fail
          refine (unhide CLX x _ ((unhide HQ).below (unhide HBL))).mono ?_
          rintro e wl ⟨rfl, hb⟩
          rw [hlfx]
          have HBL2 := hide (below_on (unhide HBL) hb)
          clear hb HBL hck hlfx
          go_wp2
          go_roundw
          case rel => exact ⟨k + 1, by omega, by go_num, HBL2⟩
          case measure => simp [intOf]; omega
        case neg =>
          have k2 : ¬ (k : Int) < (M : Int) + 1 := by omega
          have HXL := hide ((unhide HX).below (unhide HBL))
          have HBW := hide (below_on (unhide HB) (unhide HBL))
          clear HBL
          go_wp2_with fail
          refine (unhide COS _ (unhide HXL)).mono ?_
          rintro e w20 ⟨rfl, hb⟩
          have HBW2 := hide (below_on (unhide HBW) hb)
          have HXL2 := hide ((unhide HXL).below hb)
          clear hb HXL HBW
          cases ok with
          | false =>
            obtain rfl : sx = [] := (unhide HXF).1 rfl
            have hbe : (bs []).toList.isEmpty = true := by rw [bs_empty]; simp
            go_wp2
            go_ret
            exact ⟨rfl, unhide HBW2⟩
          | true =>
            rw [(unhide HXF).2 rfl] at CRX
            simp only at CRX
            go_wp2_with fail
            refine (unhide CRX _ (unhide HBW2)).mono ?_
            rintro e w21 ⟨v3, rfl, ho, hb⟩
            obtain ⟨o3, c3, rfl, hr3, _⟩ := ho.row
            have HR3 := hide hr3
            have HX3 := hide ((unhide HXL2).below hb)
            have HBW3 := hide (below_on (unhide HBW2) hb)
            clear ho hr3 hb HXL2 HBW2
            go_wp2_with fail
            refine (sameQueues_same o3 (some ⟨xb, 0, none⟩) xs.length c3 xc xs _ (unhide HR3) (unhide HX3) (by omega)).mono ?_
            rintro e w22 ⟨rfl, hb⟩
            have HBW4 := hide (below_on (unhide HBW3) hb)
            clear hb
            go_wp2
            go_ret
            exact ⟨rfl, unhide HBW4⟩

set_option maxRecDepth 100000 in
theorem contract (H : Type) (enc : TypeId × Value → H) (W : World) (base : Nat) (args : Array Value) (ds gs : List (DataW H)) (before : List MemPlace)
    (hval : ∀ (j : Nat) t v, Tryz.f3.params[j]? = some t → args[j]? = some v → Value.okWide Tryz.prog W .any base t v)
    (hW : DataW.Whole enc Tryz.prog Tryz.f3.params.toList Rows.fnQueuesSpec.vars false W args.toList ds gs before) (hL : laidMetH Tryz.prog Rows.fnQueuesRow.laid W) (hsh : W.ShapedOpen Tryz.prog) :
    Calls Tryz.prog 3 args W fun e W' => ∃ v, e = .returned v ∧ Rows.fnQueuesSpec.post enc Tryz.prog Tryz.f3 false true false false W args v W' := by
  have hW' := hW
  obtain ⟨p, q, hA0, hV, rfl, hfz, hnd⟩ := hW
  have hA : DataW.TrodAll enc Tryz.prog W 0 (fun _ => true) true Tryz.f3.params.toList args.toList ds p := hA0
  rw [Tryz.params3] at hA hval
  obtain ⟨v0, vs0, d0, ds0, p0, q0, hargs, rfl, rfl, h0, r0⟩ := trodAll_cons hA
  obtain ⟨rfl, rfl, rfl⟩ := trodAll_nil r0
  obtain rfl : args = #[v0] := by cases args; simp_all
  obtain ⟨rfl, rfl⟩ := trodVars_none hV
  obtain ⟨a0, len0, cap0, rfl⟩ := okWide_slice Tryz.underlying22 (hval 0 22 v0 rfl rfl)
  have k0 := h0
  have lt0 : ∀ x ∈ p0, x.block < W.heap.size := by obtain ⟨m, hm⟩ := k0; exact DataW.trod_lt m _ _ _ hm
  obtain ⟨z0, w0⟩ : ∃ zs, IsRow W a0 len0 cap0 zs := by
    obtain ⟨fuel, hf⟩ := h0
    rcases open_ints Tryz.underlying22 Tryz.underlying5 (by kernel_rfl) hf with ⟨hcs, _⟩ | ⟨x, l, c, zs, hcs, _, hl, hm, hz, _, hcell, hwz⟩
    · simp [Value.cells] at hcs
      obtain ⟨rfl, rfl, rfl⟩ := hcs
      exact ⟨[], .inl ⟨rfl, rfl, rfl, rfl⟩⟩
    · simp [Value.cells] at hcs
      obtain ⟨rfl, rfl, rfl⟩ := hcs
      exact ⟨zs, .inr ⟨_, rfl, hl, hm, by simpa using hz, hcell, hwz⟩⟩
  clear hA0
  refine (walk a0 len0 cap0 z0 W w0 hL hsh).mono fun e W' ⟨he, bel⟩ => ?_
  subst he
  exact ⟨_, rfl, _, _, _, [], _, [], hW', trodAll_mk1 (shut_bool Tryz.underlying4 _), (trodAll_cons_mk (Below.trod laidOut (by kernel_rfl) (of_decide_eq_true (by kernel_rfl)) k0 bel lt0) trodAll_mk0), rfl, bel.frame _, fun h => by cases h⟩

theorem reads (os : Os) {H : Type} (enc : TypeId × Value → H) : ∃ places, DataW.whole enc Tryz.prog (((World.layVars Tryz.prog { World.holding Tryz.prog os ⟨#[], #[], []⟩ with heap := (World.holding Tryz.prog os ⟨#[], #[], []⟩).heap.modify 0 layH } (Rows.fnQueuesRow.laid.filter fun x => x.2.handleName?.isNone))).forCall (fun _ _ => 0) ⟨#[], #[.slice none 0 0], []⟩).memory Tryz.f3.params.toList Rows.fnQueuesSpec.vars false #[Value.slice none 0 0].toList 8 = some ([.nil], [], places) :=
  ⟨[], by kernel_rfl⟩

set_option maxRecDepth 100000 in
theorem lifted (os : Os) (started : os.Started) (H : Type) (enc : TypeId × Value → H) (F : Stop.Interp) :
    ReturnsInHanded {} Tryz.checked os 3 .any ((OpenSpec.ofChange Rows.fnQueuesSpec).preRow enc Tryz.prog Tryz.f3 Rows.fnQueuesRow.domain false Rows.fnQueuesRow.laid) (((OpenSpec.ofChange Rows.fnQueuesSpec).at F).post enc Tryz.prog Tryz.f3 false true false false) := by
  obtain ⟨places, hx⟩ := reads os enc
  refine returnsInHanded_of_row (C := Tryz.checked) (s := OpenSpec.ofChange Rows.fnQueuesSpec) own started (by kernel_rfl) Tryz.func3
    (witness_row_at (enc := enc) (C := Tryz.checked) false ((World.layVars Tryz.prog { World.holding Tryz.prog os ⟨#[], #[], []⟩ with heap := (World.holding Tryz.prog os ⟨#[], #[], []⟩).heap.modify 0 layH } (Rows.fnQueuesRow.laid.filter fun x => x.2.handleName?.isNone))) #[.slice none 0 0] (World.layVars_os _ _ _) (by kernel_rfl) (by kernel_rfl) (by kernel_rfl)
      (OpenSpec.preRow_of_cond 8 hx (by kernel_rfl) (fun k hk => by cases hk) (by kernel_rfl) (laidW_met os _))) ?_
  intro W base args ds gs before hval hW _ _ _ hL hsh _
  exact contract H enc W base args ds gs before hval hW hL hsh

theorem said : Rows.FnQueuesSaid :=
  OpenClaim.holds_of_cond 3 Tryz.f3 rfl rfl rfl rfl rfl rfl rfl ⟨rfl, rfl, rfl, rfl, rfl⟩ rfl rfl rfl rfl rfl (by kernel_rfl) Tryz.func3 (by kernel_rfl)
    (of_decide_eq_true (by kernel_rfl)) (by unfold Func.isWrapper; first | (rw [if_pos (by decide +kernel)]; kernel_rfl) | (rw [if_neg (by decide +kernel)]; exact ⟨rfl, rfl⟩))
    (fun os started H enc _ F => by rw [OpenClaim.pre_eq_preRow]; exact lifted os started H enc F)

theorem plain (f : FuncId) (fn : Func) (hf : Tryz.pinned.checked.prog.funcNamed Rows.fnQueuesRow.func = some f) (hfn : Tryz.pinned.checked.prog.funcs[f]? = some fn) :
    true = Tryz.pinned.checked.prog.looks [] ∧ ∀ (j : Nat) t, fn.params[j]? = some t → Tryz.pinned.checked.prog.wantsStandIn t = false := by
  obtain rfl : f = 3 := Option.some.inj ((show Tryz.prog.funcNamed Rows.fnQueuesRow.func = some 3 by kernel_rfl).symm.trans hf) |>.symm
  obtain rfl : fn = Tryz.f3 := (Option.some.inj (Tryz.func3.symm.trans hfn)).symm
  refine ⟨by kernel_rfl, fun j t ht => ?_⟩
  rw [Tryz.params3] at ht
  obtain rfl : t = 22 := by simpa using Array.mem_of_getElem? ht
  exact (show Tryz.prog.wantsStandIn 22 = false by kernel_rfl)
end Go.Proofs.YtebaejokhpdbkaaGreatDoor.fnQueues

namespace Go.Proofs.YtebaejokhpdbkaaGreatDoor
theorem fnQueues_card : Rows.FnQueuesCardSaid :=
  Claim7.holds_tied_plain_at .later [] _ _ _ _ fnQueues.said (fun _ h => by cases h) (by kernel_rfl) (fun _ h => by cases h) fnQueues_row_tie rfl ⟨rfl, rfl⟩ (by kernel_rfl) rfl fnQueues.plain (by kernel_rfl)
#print axioms fnQueues_card
end Go.Proofs.YtebaejokhpdbkaaGreatDoor
