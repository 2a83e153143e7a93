/-
  Several texts of this claim in one: OkE, OkF (pack.py put them together); each says in its own remark what is proved.
-/
import Derived.Test.YtcplnodfcchdhaaGreatPackS
import Derived.Test.YtcplnodfcchdhaaGreatPackT
import Derived.Test.YtcplnodfcchdhaaGreatPackU
import Derived.Test.YtcplnodfcchdhaaGreatPackJ
import Derived.Test.YtcplnodfcchdhaaGreatPackD
import Derived.Deep.RegionHeld3
import Derived.Deep.RegionWith
import Derived.Deep.CutRange
/-
  The containers of a state are right: contsOk, by the program; a walk over the dump.
-/
namespace Go.Proofs.YtcplnodfcchdhaaGreat
open Go.RowKit Go.Maps
set_option linter.unusedVariables false
def contsFrom (apps : List Appl) : List Mac → Int → List Con → Bool
  | _, _, [] => true
  | l, last, c :: t => decide (last < c.id) && (decide (c.id ≤ 1000000000) && (someR c.mem c.cpu && ((findAp c.app apps).isSome && ((findM c.node l).isSome && (bothOk (-1) ((findM c.node l).getD ⟨[], 0, 0, 0⟩).mem ((findM c.node l).getD ⟨[], 0, 0, 0⟩).cpu c.mem c.cpu
      && contsFrom apps (⟨((findM c.node l).getD ⟨[], 0, 0, 0⟩).name, ((findM c.node l).getD ⟨[], 0, 0, 0⟩).mem + -1 * c.mem, ((findM c.node l).getD ⟨[], 0, 0, 0⟩).cpu + -1 * c.cpu, ((findM c.node l).getD ⟨[], 0, 0, 0⟩).seen⟩ :: l) c.id t)))))
def contsOkV (s : St) : Bool := decide (s.cs.length ≤ 150) && contsFrom s.apps s.ms 0 s.cs
theorem contsFrom_end {apps : List Appl} {l : List Mac} {last : Int} {cs : List Con} {k : Nat} (h : cs.length ≤ k) : contsFrom apps l last (cs.drop k) = true := by
  rw [List.drop_of_length_le h]; rfl
theorem contsFrom_step {apps : List Appl} {l : List Mac} {last : Int} {cs : List Con} {k : Nat} (h : k < cs.length) {m : Mac} {b : Bool} (hm : (findM cs[k].node l).getD ⟨[], 0, 0, 0⟩ = m) (hb : (findM cs[k].node l).isSome = b) :
    contsFrom apps l last (cs.drop k) = (decide (last < cs[k].id) && (decide (cs[k].id ≤ 1000000000) && (someR cs[k].mem cs[k].cpu && ((findAp cs[k].app apps).isSome && (b && (bothOk (-1) m.mem m.cpu cs[k].mem cs[k].cpu
      && contsFrom apps (⟨m.name, m.mem + -1 * cs[k].mem, m.cpu + -1 * cs[k].cpu, m.seen⟩ :: l) cs[k].id (cs.drop (k + 1)))))))) := by
  rw [List.drop_eq_getElem_cons h, contsFrom, hm, hb]
theorem findM_name {nm : List UInt8} {l : List Mac} {m : Mac} (h : findM nm l = some m) : m.name = nm := by simpa using List.find?_some h
theorem hasB_find {s : List Appl} {hs : List AV} {w : World} (hh : Heads w hs s) (q : Con) : hasB hs (fun _ => true) q = (findAp q.app s).isSome := by
  have := heads_find (id := q.app) hh.1 (fun i h h' => ⟨(hh.2 i h h').1, (hh.2 i h h').2.1⟩)
  rw [hasB]
  cases h1 : findA q.app hs <;> cases h2 : findAp q.app s <;> rw [h1, h2] at this <;> simp [optB] at this ⊢

set_option maxHeartbeats 1000000 in
theorem onMachine_any (q : Con) (w : World) :
    Calls Tryz.prog 107 #[conv q] w fun e w' => e = .returned (keyv q.node 0) ∧ Below w.heap.size w w' := by
  obtain ⟨id, ap, nd, me, cp⟩ := q
  go_enter Tryz.func107, Tryz.ntmps107
  go_wp2
  refine bodyPost_ret (v := keyv nd 0) (by simp [results, Tryz.results107, go_sem]; try rfl) rfl ⟨rfl, ?_⟩
  repeat (first | exact Below.refl _ _ | refine below_al ?_ _ | refine Below.drew ?_ | refine below_sc ?_ _ _ _ (by omega))

set_option maxRecDepth 100000 in
set_option maxHeartbeats 8000000 in
theorem contsOk_any (x : Sls) (s : St) (w : World) (h : SRow w x s) (hf : FitSt s) (hw : WfSt s) :
    Calls Tryz.prog 64 #[sv x s] w fun e w' => e = .returned (.bool (contsOkV s)) ∧ Below w.heap.size w w' := by
  have hal : x.al ≤ 1048576 := by have := h.len.2.1; have := hf.2.1.1; omega
  have hml : x.ml ≤ 1048576 := by have := h.len.2.2.1; have := hf.2.2.1.1; omega
  have hcl : x.cl ≤ 1048576 := by have := h.len.2.2.2; have := hf.2.2.2.1; omega
  have HR := hide h.2.2.2
  have HL := hide h.2.2.2.1
  have HFC := hide hf.2.2.2
  have HWC := hide hw.2
  have hmn : s.ms.length ≤ 1048576 := by have := h.2.2.1.1; omega
  obtain ⟨hs, hav, hhd⟩ := h.2.1.heads
  have HHB := hide (fun q => hasB_find hhd q)
  have CA := hide (fun wx (hb : Below w.heap.size w wx) => apps_ex x s hs wx (hav.below hb) hal (heads_wf hhd hw.1))
  have CM := hide (fun wx (hb : Below w.heap.size w wx) => machines_ex x s wx (h.2.2.1.below hb) hml (fun m hm => hf.2.2.1.2 m hm))
  have HS := hide (show contsOkV s = (decide (x.cl ≤ 150) && contsFrom s.apps s.ms 0 s.cs) by rw [contsOkV, ← h.2.2.2.1])
  obtain ⟨o, ho⟩ : ∃ o, contsOkV s = o := ⟨_, rfl⟩
  rw [ho] at HS ⊢
  clear h hf hw ho hav hhd
  obtain ⟨qa, ql, qc, aa, al, ac, ma, ml, mc, ca, cl, cc⟩ := x
  obtain ⟨qs, clock, epoch, next, serial, apps, ms, cs⟩ := s
  simp only at hal hml hcl HR HL HFC HWC hmn CA CM HS HHB
  have HB0 := hide (boxW_below w (svc ⟨qa, ql, qc, aa, al, ac, ma, ml, mc, ca, cl, cc⟩ ⟨qs, clock, epoch, next, serial, apps, ms, cs⟩))
  have P0 := hide (boxW_blk w (svc ⟨qa, ql, qc, aa, al, ac, ma, ml, mc, ca, cl, cc⟩ ⟨qs, clock, epoch, next, serial, apps, ms, cs⟩))
  obtain ⟨q0, q1, q2, q3, q4, q5, q6, q7⟩ : _ ∧ _ ∧ _ ∧ _ ∧ _ ∧ _ ∧ _ ∧ _ := ⟨(unhide P0).at 0, (unhide P0).at 1, (unhide P0).at 2, (unhide P0).at 3, (unhide P0).at 4, (unhide P0).at 5, (unhide P0).at 6, (unhide P0).at 7⟩
  simp at q0 q1 q2 q3 q4 q5 q6 q7
  by_cases h40 : cl ≤ 150
  case neg =>
    have hi : (150 : Int) < cl := by omega
    rw [decide_eq_false h40] at HS
    go_enter Tryz.func64, Tryz.ntmps64
    go_wp2
    go_ret
    exact ⟨ret_bool (by rw [unhide HS]; simp), unhide HB0⟩
  have hi : ¬ (150 : Int) < cl := by omega
  rw [decide_eq_true h40, Bool.true_and] at HS
  obtain ⟨W0, hW0⟩ : ∃ W, boxW w (svc ⟨qa, ql, qc, aa, al, ac, ma, ml, mc, ca, cl, cc⟩ ⟨qs, clock, epoch, next, serial, apps, ms, cs⟩) = W := ⟨_, rfl⟩
  have hsz0 : W0.heap.size = w.heap.size + 1 := by rw [← hW0, boxW_size]
  go_enter Tryz.func64, Tryz.ntmps64
  go_wp2_with fail
  change Code.wp _ _ _ _ (boxW w (svc ⟨qa, ql, qc, aa, al, ac, ma, ml, mc, ca, cl, cc⟩ ⟨qs, clock, epoch, next, serial, apps, ms, cs⟩))
  rw [hW0] at HB0 q0 q1 q2 q3 q4 q5 q6 q7 ⊢
  have R : ∀ wx, Kp W0 wx → wx.cell? ⟨w.heap.size, 0, none⟩ = some (.slice qa ql qc) ∧ wx.cell? ⟨w.heap.size, 1, none⟩ = some (.int .i64 clock) ∧ wx.cell? ⟨w.heap.size, 2, none⟩ = some (.int .i64 epoch) ∧ wx.cell? ⟨w.heap.size, 3, none⟩ = some (.int .i64 next) ∧ wx.cell? ⟨w.heap.size, 4, none⟩ = some (.int .i64 serial) ∧ wx.cell? ⟨w.heap.size, 5, none⟩ = some (.slice aa al ac) ∧ wx.cell? ⟨w.heap.size, 6, none⟩ = some (.slice ma ml mc) ∧ wx.cell? ⟨w.heap.size, 7, none⟩ = some (.slice ca cl cc) := fun wx h =>
    ⟨h.cell q0, h.cell q1, h.cell q2, h.cell q3, h.cell q4, h.cell q5, h.cell q6, h.cell q7⟩
  have A0 := hide (Kp.new W0)
  have HK := hide (kp_holds W0)
  have Q7 := hide q7
  clear q0 q1 q2 q3 q4 q5 q6 q7 P0 hW0 h40 hi
  go_cut [3, 4] from 16 to 19 (fun v3 v4 wx => ∃ ba bm n, v3 = .map (some ba) ∧ v4 = .map (some bm) ∧ W0.heap.size ≤ ba ∧ ba < bm ∧ Hid (∃ D, wx.ownsMap Tryz.prog 69 appElem ba n D ∧ KnownA hs allA D) ∧ Hid (∃ D, wx.ownsMap Tryz.prog 69 macElem bm ms.length D ∧ KnownM ms D) ∧ Kp W0 wx)
  case first =>
    go_region_held3 (fun wx => Kp W0 wx)
      (first | (with_reducible assumption) | exact unhide SA | exact (unhide HK).drew (unhide A0) | exact (unhide HK).call (by assumption) (by assumption))
      (first
      | (go_at_call 42; refine (unhide CA _ ?_).mono ?_; (exact below_on (unhide HB0) ((unhide HK).below (by assumption))); rintro e wt ⟨ba, rfl, ⟨hba, D1, hown1, hk1⟩, hb⟩; have HAP := hide (And.intro hown1 hk1); have SZ := (show W0.heap.size ≤ ba from Nat.le_trans ((unhide HK).size (by assumption)) hba); have LT := hown1.lt; have SA := hide ((unhide HK).call (by assumption) hb); clear hown1 hk1)
      | (go_at_call 35; refine (unhide CM _ ?_).mono ?_; (exact below_on (unhide HB0) ((unhide HK).below (by assumption))); rintro e wt2 ⟨bm, rfl, ⟨hbm, D2, hown2, hk2⟩, hb⟩; have HMP := hide (And.intro hown2 hk2); have HAP2 := hide (And.intro (ownsMap_below (unhide HAP).1 hb) (unhide HAP).2); have SA := hide ((unhide HK).call (by assumption) hb); clear hown2 hk2))
    all_goals
      go_wp2_with fail
      go_meet
      exact ⟨ba, bm, _, rfl, rfl, SZ, by omega, hide ⟨_, unhide HAP2⟩, hide ⟨_, unhide HMP⟩, by first | assumption | exact unhide SA⟩
  case rest =>
    obtain ⟨ba, bm, n, rfl, rfl, hba, hbm, HAP, HMP, hA⟩ := hcut
    have HB1 := hide (below_on (unhide HB0) hA)
    have q7 := hA.cell (unhide Q7)
    clear hA R A0 HK CA CM Q7
    go_wp2
    go_loopw [5, 23] (fun la i wr => ∃ (k : Nat) (last : Int) (l : List Mac), k ≤ cl ∧ i = .int .i64 k ∧ la = .int .i64 last ∧ l.length ≤ 1048576 + k ∧ Hid (o = contsFrom apps l last (cs.drop k)) ∧ Hid (∃ D, wr.ownsMap Tryz.prog 69 appElem ba n D ∧ KnownA hs allA D) ∧ Hid (∃ D, wr.ownsMap Tryz.prog 69 macElem bm l.length D ∧ KnownM l D) ∧ Hid (Below w.heap.size w wr)) (fun _ i _ => cl - (intOf i).toNat)
    case atStart => exact ⟨0, 0, ms, Nat.zero_le _, rfl, rfl, by omega, hide (by rw [unhide HS]; simp), HAP, HMP, HB1⟩
    case round =>
      obtain ⟨k, last, l, hk, rfl, rfl, hll, HO, HA, HM, HB⟩ := hrel
      clear HAP HMP HB1 HS
      by_cases hlt : k < cl
      · obtain ⟨b, off, rfl, hq⟩ := ((unhide HR).below (unhide HB)).at hlt
        have hkl : k < cs.length := by have := unhide HL; omega
        have hfc := (unhide HFC).2 _ (List.getElem_mem hkl)
        have hwc := unhide HWC _ (List.getElem_mem hkl)
        obtain ⟨c0, c1, c2, c3, c4⟩ := hq hkl
        obtain ⟨m, hm⟩ : ∃ m, (findM cs[k].node l).getD ⟨[], 0, 0, 0⟩ = m := ⟨_, rfl⟩
        obtain ⟨th, hth⟩ : ∃ t, (findM cs[k].node l).isSome = t := ⟨_, rfl⟩
        have hst := contsFrom_step (apps := apps) (l := l) (last := last) hkl hm hth
        have hname : th = true → m.name = cs[k].node := fun ht => by
          cases hf : findM cs[k].node l with
          | none => rw [hf] at hth; subst ht; cases hth
          | some m' => rw [hf] at hm; subst hm; exact findM_name hf
        obtain ⟨q, hs'⟩ : ∃ q, cs[k] = q := ⟨_, rfl⟩
        rw [hs'] at c0 c1 c2 c3 c4 hst hfc hwc hm hth hname
        have HST := hide hst
        have HNAME := hide hname
        obtain ⟨kl, hkey⟩ := keyKey (nm := q.node) (k := 0) (by omega) (by decide)
        have HKEY := hide hkey
        have CO := hide (fun wx => onMachine_any q wx)
        have CH := hide (fun (wx : World) (hx : ∃ D, wx.ownsMap Tryz.prog 69 appElem ba n D ∧ KnownA hs allA D) => by obtain ⟨D, h1, h2⟩ := hx; have := has_any ba n D hs (fun _ => true) q wx h1 h2 hwc; rw [unhide HHB q] at this; exact this)
        have HLK := hide (fun (wx : World) (hx : ∃ D, wx.ownsMap Tryz.prog 69 macElem bm l.length D ∧ KnownM l D) => by obtain ⟨D, h1, h2⟩ := hx; have := lookM h1 h2 hkey; rw [hm, hth] at this; exact this)
        have C1 := hide (fun wx => something_any q.mem q.cpu wx)
        have CS := hide (fun wx => implSub_any m.mem m.cpu q.mem q.cpu wx)
        clear hq hs' hkl hfc hwc hst hname hkey hm hth
        obtain ⟨id, ap, nd, me, cp⟩ := q
        obtain ⟨mn, mm, mp, se⟩ := m
        simp only at c0 c1 c2 c3 c4 HST HNAME CH HLK C1 CS
        obtain ⟨sm, hsm⟩ : ∃ r, someR me cp = r := ⟨_, rfl⟩
        obtain ⟨ha, hha⟩ : ∃ r, (findAp ap apps).isSome = r := ⟨_, rfl⟩
        obtain ⟨lx, ly, ok, hv⟩ : ∃ x' y' ok, bothV (-1) mm mp me cp = rv x' y' ∧ bothOk (-1) mm mp me cp = ok ∧ (ok = true → x' = mm + -1 * me ∧ y' = mp + -1 * cp) := by
          cases hb : bothOk (-1) mm mp me cp
          · exact ⟨0, 0, _, both_no hb, rfl, by simp⟩
          · exact ⟨_, _, _, both_yes hb, rfl, fun _ => ⟨rfl, rfl⟩⟩
        have HVV := hide hv.2.2
        rw [hv.1, hv.2.1] at CS
        rw [hsm, hha, hv.2.1] at HST
        rw [hsm] at C1
        rw [hha] at CH
        have HO2 := hide ((unhide HO).trans (unhide HST))
        clear hsm hha hv HO HST
        have P2 := hide (blk_new wr #[.int .i64 id, .int .i64 ap, .string (bs nd), .int .i64 me, .int .i64 cp] 72)
        have b2 := below_al (Below.refl _ wr) (.cells #[.int .i64 id, .int .i64 ap, .string (bs nd), .int .i64 me, .int .i64 cp] 72)
        have HB2 := hide b2
        clear b2
        go_wp2_with fail
        refine (unhide CO _).mono ?_
        rintro e w3 ⟨rfl, hb⟩
        have h3 : wr.heap.size + 1 ≤ w3.heap.size := by have := hb.size; rw [al_size] at this; exact this
        have HB3 := hide (below_on (unhide HB2) hb)
        have P3 := hide ((unhide P2).below hb)
        have hlk := unhide HLK w3 (by obtain ⟨D, h1, h2⟩ := unhide HM; exact ⟨D, ownsMap_below h1 (unhide HB3), h2⟩)
        clear hb HB2 P2
        have HB4 := hide (below_al (unhide HB3) (macobj ⟨mn, mm, mp, se⟩))
        have P4 := hide ((unhide P3).al (macobj ⟨mn, mm, mp, se⟩))
        have M4 := hide (blk_new w3 #[.string (bs mn), .int .i64 mm, .int .i64 mp, .int .i64 se] 56)
        have a3 := (unhide P4).at 3
        have a4 := (unhide P4).at 4
        simp at a3 a4
        go_wp2_with fail
        refine (unhide CS _).mono ?_
        rintro e w5 ⟨rfl, hb⟩
        have HB6 := hide (below_al (below_on (unhide HB4) hb) (.cells #[.int .i64 lx, .int .i64 ly] 33))
        have P6 := hide (((unhide P4).below hb).al (.cells #[.int .i64 lx, .int .i64 ly] 33))
        have M6 := hide (((unhide M4).below hb).al (.cells #[.int .i64 lx, .int .i64 ly] 33))
        have V6 := hide (var_new w5 33 lx ly)
        have h5 : w3.heap.size + 1 ≤ w5.heap.size := by have := hb.size; rw [al_size] at this; exact this
        have e0 := (unhide P6).at 0
        have e3 := (unhide P6).at 3
        have e4 := (unhide P6).at 4
        simp at e0 e3 e4
        have HBW := hide (below_on (unhide HB) (unhide HB6))
        clear hb HB4 P4 M4 CS a3 a4 hlk c0 c1 c2 c3 c4 HLK
        by_cases h1 : last < id
        case neg =>
          have h1' : id ≤ last := by omega
          go_wp2
          go_ret
          exact ⟨ret_bool (by rw [unhide HO2, decide_eq_false (show ¬ last < id by omega)]; simp), unhide HBW⟩
        have h1' : ¬ id ≤ last := by omega
        by_cases h2 : id ≤ 1000000000
        case neg =>
          have h2' : 1000000000 < id := by omega
          go_wp2
          go_ret
          exact ⟨ret_bool (by rw [unhide HO2, decide_eq_false (show ¬ id ≤ 1000000000 by omega)]; simp), unhide HBW⟩
        have h2' : ¬ 1000000000 < id := by omega
        have HO3 := hide (show o = (sm && (ha && (th && (ok && contsFrom apps (⟨mn, mm + -1 * me, mp + -1 * cp, se⟩ :: l) id (cs.drop (k + 1)))))) by rw [unhide HO2, decide_eq_true h1, decide_eq_true h2]; simp)
        clear HO2
        go_wp2_with fail
        refine (unhide C1 _).mono ?_
        rintro e w7 ⟨rfl, hb⟩
        have HB7 := hide (below_on (unhide HB6) hb)
        have P7 := hide ((unhide P6).below hb)
        have M7 := hide ((unhide M6).below hb)
        have V7 := hide ((unhide V6).below hb)
        have h7 : w5.heap.size + 1 ≤ w7.heap.size := by have := hb.size; rw [al_size] at this; exact this
        have f0 := (unhide P7).at 0
        have f1 := (unhide P7).at 1
        have f2 := (unhide P7).at 2
        have f3 := (unhide P7).at 3
        have f4 := (unhide P7).at 4
        simp at f0 f1 f2 f3 f4
        have HBW7 := hide (below_on (unhide HB) (unhide HB7))
        clear hb HB6 P6 M6 V6 C1 HBW e0 e3 e4
        cases sm with
        | false =>
          go_wp2
          go_ret
          exact ⟨ret_bool (by rw [unhide HO3]; simp), unhide HBW7⟩
        | true =>
        go_wp2_with fail
        refine (unhide CH _ ?_).mono ?_
        · obtain ⟨D, g1, g2⟩ := unhide HA
          exact ⟨D, ownsMap_below g1 (unhide HB7), g2⟩
        rintro e w9 ⟨rfl, hb⟩
        have HB9 := hide (below_on (unhide HB7) hb)
        have P9 := hide ((unhide P7).below hb)
        have M9 := hide ((unhide M7).below hb)
        have V9 := hide ((unhide V7).below hb)
        have h9 := hb.size
        have HBW9 := hide (below_on (unhide HB) (unhide HB9))
        clear hb HB7 P7 M7 V7 CH HBW7 f0 f1 f2 f3 f4
        cases ha with
        | false =>
          go_wp2
          go_ret
          exact ⟨ret_bool (by rw [unhide HO3]; simp), unhide HBW9⟩
        | true =>
        cases th with
        | false =>
          go_wp2
          go_ret
          exact ⟨ret_bool (by rw [unhide HO3]; simp), unhide HBW9⟩
        | true =>
        cases ok with
        | false =>
          go_wp2
          go_ret
          exact ⟨ret_bool (by rw [unhide HO3]; simp), unhide HBW9⟩
        | true =>
        obtain ⟨hlx, hly⟩ := unhide HVV rfl
        have HO4 := hide (show o = contsFrom apps (⟨mn, lx, ly, se⟩ :: l) id (cs.drop (k + 1)) by rw [unhide HO3, hlx, hly]; simp)
        have hmn2 := unhide HNAME rfl
        have HKEY2 := hide (show keyOf Tryz.prog 69 (keyv mn 0) = some kl by rw [hmn2]; exact unhide HKEY)
        clear HO3 HVV hlx hly HNAME hmn2
        have v0 := (unhide V9).c0
        have v1 := (unhide V9).c1
        have m1 := (unhide M9).f 1
        have m2 := (unhide M9).f 2
        have m3 := (unhide M9).at 1
        have m4 := (unhide M9).at 2
        simp at m3 m4
        have hbmr : bm < wr.heap.size := by obtain ⟨D, g1, _⟩ := unhide HM; exact g1.lt
        have hbar : ba < wr.heap.size := by obtain ⟨D, g1, _⟩ := unhide HA; exact g1.lt
        have hw3 := (unhide HB3).size
        have hww := (unhide HB).size
        obtain ⟨W10, hW10⟩ : ∃ W, (w9.setCell ⟨w3.heap.size, 1, none⟩ (.int .i64 lx)).setCell ⟨w3.heap.size, 2, none⟩ (.int .i64 ly) = W := ⟨_, rfl⟩
        have hM10 : Blk W10 w3.heap.size #[.string (bs mn), .int .i64 lx, .int .i64 ly, .int .i64 se] 56 := by
          rw [← hW10]
          exact heap_setCell_same _ _ 2 _ _ (.int .i64 ly) (heap_setCell_same _ _ 1 _ _ (.int .i64 lx) (unhide M9))
        have hP10 : Blk W10 wr.heap.size #[.int .i64 id, .int .i64 ap, .string (bs nd), .int .i64 me, .int .i64 cp] 72 := by
          rw [← hW10]
          exact ((unhide P9).other _ _ _ (by omega)).other _ _ _ (by omega)
        have HB10 := hide (show Below w.heap.size w W10 by rw [← hW10]; exact below_sc (below_sc (unhide HBW9) _ _ _ (by omega)) _ _ _ (by omega))
        have HM10 := hide (show ∃ D, W10.ownsMap Tryz.prog 69 macElem bm l.length D ∧ KnownM l D by
          obtain ⟨D, g1, g2⟩ := unhide HM
          exact ⟨D, by rw [← hW10]; exact ((ownsMap_below g1 (unhide HB9)).setCell (by simp only; omega) _).setCell (by simp only; omega) _, g2⟩)
        have HA10 := hide (show ∃ D, W10.ownsMap Tryz.prog 69 appElem ba n D ∧ KnownA hs allA D by
          obtain ⟨D, g1, g2⟩ := unhide HA
          exact ⟨D, by rw [← hW10]; exact ((ownsMap_below g1 (unhide HB9)).setCell (by simp only; omega) _).setCell (by simp only; omega) _, g2⟩)
        have p0 := hP10.at 0
        have p1 := hP10.at 1
        have p2 := hP10.at 2
        have p3 := hP10.at 3
        have p4 := hP10.at 4
        have z0 := hM10.at 0
        have z1 := hM10.at 1
        have z2 := hM10.at 2
        have z3 := hM10.at 3
        simp at p0 p1 p2 p3 p4 z0 z1 z2 z3
        have P10 := hide hP10
        have M10 := hide hM10
        clear hP10 hM10 P9 M9 V9 HB9 HBW9 HM HA HB HB3 P3
        go_wp2_with fail
        clear hW10 v0 v1 m1 m2 m3 m4
        go_region_with (first | (go_at_call 107; refine (unhide CO _).mono ?_; rintro e wz ⟨rfl, hbc⟩; have HZ := hide (below_on (Below.refl _ W10).drew hbc); have y0 := ((unhide M10).below (unhide HZ)).at 0; have y1 := ((unhide M10).below (unhide HZ)).at 1; have y2 := ((unhide M10).below (unhide HZ)).at 2; have y3 := ((unhide M10).below (unhide HZ)).at 3; simp at y0 y1 y2 y3; obtain ⟨D, g1, g2⟩ := unhide HM10; obtain ⟨w11, hrun, hown2, hgrow2⟩ := (ownsMap_below g1 (unhide HZ)).update keyLaw Tryz.underlying66 (by unfold maxLen; omega) (unhide HKEY) (macElem_mk ⟨mn, lx, ly, se⟩); have HFIN := hide (And.intro hown2 (And.intro hgrow2 (KnownM.put (m := ⟨mn, lx, ly, se⟩) g2 g1.isMap (unhide HKEY2)))); clear hown2 hgrow2 g1 g2 hbc))
        all_goals
          obtain ⟨f1, f2, f3⟩ := unhide HFIN
          have hpz := (unhide P10).below (unhide HZ)
          have P11 : Blk w11 wr.heap.size #[.int .i64 id, .int .i64 ap, .string (bs nd), .int .i64 me, .int .i64 cp] 72 := (f2.block _ hpz.lt (by simp; omega)).trans hpz
          have g0 := P11.at 0
          simp at g0
          have HF1 := hide f1
          have HF2 := hide f2
          have HF3 := hide f3
          clear f1 f2 f3 hpz P11
          go_wp2
          have f1 := unhide HF1
          have f2 := unhide HF2
          have f3 := unhide HF3
          go_roundw
          case rel =>
            refine ⟨k + 1, id, ⟨mn, lx, ly, se⟩ :: l, by omega, by go_num, rfl, by simp; omega, HO4, ?_, hide ⟨_, f1, f3⟩, hide ?_⟩
            · obtain ⟨D2, a1, a2⟩ := unhide HA10
              exact hide ⟨D2, (ownsMap_below a1 (unhide HZ)).kept f2 (by simp; omega), a2⟩
            · exact (below_on (unhide HB10) (unhide HZ)).grown f2 (by have := (unhide HB10).size; have := (unhide HZ).size; omega) (fun j e => by cases e; omega)
          case measure => simp [intOf]; omega
      · go_wp2
        go_ret
        exact ⟨ret_bool (by rw [unhide HO, contsFrom_end (by have := unhide HL; omega)]), unhide HB⟩
end Go.Proofs.YtcplnodfcchdhaaGreat

/-
  A state is right: StateOk, by the program; a walk over the dump.
-/
namespace Go.Proofs.YtcplnodfcchdhaaGreat
open Go.RowKit
set_option linter.unusedVariables false
def stateOkI (s : St) : Bool := queuesOk s.qs && (numsOk s && (appsOkV s && (machsOkV s && contsOkV s)))

set_option maxRecDepth 100000 in
set_option maxHeartbeats 4000000 in
theorem stateOkI_any (x : Sls) (s : St) (w : World) (h : SRow w x s) (hf : FitSt s) (hc : x.ql ≤ x.qc) (hw : WfSt s) :
    Calls Tryz.prog 23 #[sv x s] w fun e w' => e = .returned (.bool (stateOkI s)) ∧ Below w.heap.size w w' := by
  have hql : x.ql ≤ 1048576 := by have := h.len.1; have := hf.1.1; omega
  have C1 := hide (fun wx (hb : Below w.heap.size w wx) => implQueuesOk_any x.qa x.ql x.qc s.qs wx (h.1.below hb) hql (fun q hq => (hf.1.2 q hq).1) hc)
  have C2 := hide (fun wx => numbersOk_any x s wx)
  have C3 := hide (fun wx (hb : Below w.heap.size w wx) => appsOk_any x s wx (h.below hb) hf)
  have C4 := hide (fun wx (hb : Below w.heap.size w wx) => machinesOk_any x s wx (h.below hb) hf)
  have C5 := hide (fun wx (hb : Below w.heap.size w wx) => contsOk_any x s wx (h.below hb) hf hw)
  obtain ⟨b1, e1⟩ : ∃ b, queuesOk s.qs = b := ⟨_, rfl⟩
  obtain ⟨b2, e2⟩ : ∃ b, numsOk s = b := ⟨_, rfl⟩
  obtain ⟨b3, e3⟩ : ∃ b, appsOkV s = b := ⟨_, rfl⟩
  obtain ⟨b4, e4⟩ : ∃ b, machsOkV s = b := ⟨_, rfl⟩
  obtain ⟨b5, e5⟩ : ∃ b, contsOkV s = b := ⟨_, rfl⟩
  rw [show stateOkI s = (b1 && (b2 && (b3 && (b4 && b5)))) by rw [stateOkI, e1, e2, e3, e4, e5]]
  rw [e1] at C1
  rw [e2] at C2
  rw [e3] at C3
  rw [e4] at C4
  rw [e5] at C5
  clear h hf hc hw e1 e2 e3 e4 e5
  obtain ⟨qa, ql, qc, aa, al, ac, ma, ml, mc, ca, cl, cc⟩ := x
  obtain ⟨qs, clock, epoch, next, serial, apps, ms, cs⟩ := s
  simp only at C1 C2 C3 C4 C5 hql
  have HB0 := hide (boxW_below w (svc ⟨qa, ql, qc, aa, al, ac, ma, ml, mc, ca, cl, cc⟩ ⟨qs, clock, epoch, next, serial, apps, ms, cs⟩))
  have P0 := hide (boxW_blk w (svc ⟨qa, ql, qc, aa, al, ac, ma, ml, mc, ca, cl, cc⟩ ⟨qs, clock, epoch, next, serial, apps, ms, cs⟩))
  go_enter Tryz.func23, Tryz.ntmps23
  go_wp2_with fail
  refine (unhide C1 _ (unhide HB0)).mono ?_
  rintro e w1 ⟨rfl, hb⟩
  have HB1 := hide (below_on (unhide HB0) hb)
  have P1 := hide ((unhide P0).below hb)
  clear hb HB0 P0 C1
  cases b1 with
  | false =>
    go_wp2
    go_ret
    exact ⟨rfl, unhide HB1⟩
  | true =>
  obtain ⟨q0, q1, q2, q3, q4, q5, q6, q7⟩ : _ ∧ _ ∧ _ ∧ _ ∧ _ ∧ _ ∧ _ ∧ _ := ⟨(unhide P1).at 0, (unhide P1).at 1, (unhide P1).at 2, (unhide P1).at 3, (unhide P1).at 4, (unhide P1).at 5, (unhide P1).at 6, (unhide P1).at 7⟩
  simp at q0 q1 q2 q3 q4 q5 q6 q7
  go_wp2_with fail
  refine (unhide C2 _).mono ?_
  rintro e w2 ⟨rfl, hb⟩
  have HB2 := hide (below_on (unhide HB1) hb)
  have P2 := hide ((unhide P1).below hb)
  clear hb HB1 P1 C2 q0 q1 q2 q3 q4 q5 q6 q7
  cases b2 with
  | false =>
    go_wp2
    go_ret
    exact ⟨rfl, unhide HB2⟩
  | true =>
  obtain ⟨q0, q1, q2, q3, q4, q5, q6, q7⟩ : _ ∧ _ ∧ _ ∧ _ ∧ _ ∧ _ ∧ _ ∧ _ := ⟨(unhide P2).at 0, (unhide P2).at 1, (unhide P2).at 2, (unhide P2).at 3, (unhide P2).at 4, (unhide P2).at 5, (unhide P2).at 6, (unhide P2).at 7⟩
  simp at q0 q1 q2 q3 q4 q5 q6 q7
  go_wp2_with fail
  refine (unhide C3 _ (unhide HB2)).mono ?_
  rintro e w3 ⟨rfl, hb⟩
  have HB3 := hide (below_on (unhide HB2) hb)
  have P3 := hide ((unhide P2).below hb)
  clear hb HB2 P2 C3 q0 q1 q2 q3 q4 q5 q6 q7
  cases b3 with
  | false =>
    go_wp2
    go_ret
    exact ⟨rfl, unhide HB3⟩
  | true =>
  obtain ⟨q0, q1, q2, q3, q4, q5, q6, q7⟩ : _ ∧ _ ∧ _ ∧ _ ∧ _ ∧ _ ∧ _ ∧ _ := ⟨(unhide P3).at 0, (unhide P3).at 1, (unhide P3).at 2, (unhide P3).at 3, (unhide P3).at 4, (unhide P3).at 5, (unhide P3).at 6, (unhide P3).at 7⟩
  simp at q0 q1 q2 q3 q4 q5 q6 q7
  go_wp2_with fail
  refine (unhide C4 _ (unhide HB3)).mono ?_
  rintro e w4 ⟨rfl, hb⟩
  have HB4 := hide (below_on (unhide HB3) hb)
  have P4 := hide ((unhide P3).below hb)
  clear hb HB3 P3 C4 q0 q1 q2 q3 q4 q5 q6 q7
  cases b4 with
  | false =>
    go_wp2
    go_ret
    exact ⟨rfl, unhide HB4⟩
  | true =>
  obtain ⟨q0, q1, q2, q3, q4, q5, q6, q7⟩ : _ ∧ _ ∧ _ ∧ _ ∧ _ ∧ _ ∧ _ ∧ _ := ⟨(unhide P4).at 0, (unhide P4).at 1, (unhide P4).at 2, (unhide P4).at 3, (unhide P4).at 4, (unhide P4).at 5, (unhide P4).at 6, (unhide P4).at 7⟩
  simp at q0 q1 q2 q3 q4 q5 q6 q7
  go_wp2_with fail
  refine (unhide C5 _ (unhide HB4)).mono ?_
  rintro e w5 ⟨rfl, hb⟩
  have HB5 := hide (below_on (unhide HB4) hb)
  clear hb HB4 P4 C5 q0 q1 q2 q3 q4 q5 q6 q7
  cases b5
  all_goals
    go_wp2
    go_ret
    exact ⟨rfl, unhide HB5⟩
end Go.Proofs.YtcplnodfcchdhaaGreat
