/-
  Several texts of this claim in one: OkM, TakD2, TakE, MarkN, RecV, RcvM, GrowS, AppN (pack.py put them together); each says in its own remark what is proved.
-/
import Derived.Test.YtgdndekmkaknlaaGreatPackH
import Derived.Test.YtgdndekmkaknlaaGreatPackM
import Derived.Test.YtgdndekmkaknlaaGreatOkI
import Derived.Deep.CutBlock
import Derived.Deep.CutRange
import Derived.Test.YtgdndekmkaknlaaGreatPackC
import Derived.Test.YtgdndekmkaknlaaGreatStAll
import Derived.Test.YtgdndekmkaknlaaGreatPackE
import Derived.Test.YtgdndekmkaknlaaGreatPackK
import Derived.Test.YtgdndekmkaknlaaGreatPackA
import Derived.Test.YtgdndekmkaknlaaGreatPackI
import Derived.ProofKit
import Derived.OpenShut
import Derived.ChangeSame
import Derived.Deep.Slices
import Derived.Test.YtgdndekmkaknlaaGreatPackF
import Derived.Test.YtgdndekmkaknlaaGreatPackG
import Derived.Laws.AppendOwnNone
import Derived.Laws.AppendOwn
/-
  A state is right: that the program's way and the model's way to ask are one; plain words.
-/
namespace Go.Proofs.YtgdndekmkaknlaaGreat
open Go.RowKit
set_option linter.unusedVariables false
/-- one amount behind the other taken away from what there is -/
def subsOk : Int → Int → List (Int × Int) → Bool
  | _, _, [] => true
  | x, y, r :: t => bothOk (-1) x y r.1 r.2 && subsOk (x + -1 * r.1) (y + -1 * r.2) t
theorem okSum : ∀ (l : List (Int × Int)) (x y : Int), resOk x y = true → resOk (sumFrom l x y).1 (sumFrom l x y).2.1 = true
  | [], x, y, h => h
  | r :: t, x, y, h => by
    rw [sumFrom]
    by_cases hb : bothOk 1 x y r.1 r.2 = true
    · rw [if_pos hb]
      refine okSum t _ _ ?_
      simp only [bothOk, Bool.and_eq_true] at hb
      exact hb.2
    · rw [if_neg hb]; decide
theorem sumFrom_each : ∀ (l : List (Int × Int)) (x y : Int), (sumFrom l x y).2.2 = true → ∀ r ∈ l, resOk r.1 r.2 = true
  | [], x, y, _, r, h => by simp at h
  | q :: t, x, y, h, r, hr => by
    rw [sumFrom] at h
    by_cases hb : bothOk 1 x y q.1 q.2 = true
    · rw [if_pos hb] at h
      rcases List.mem_cons.1 hr with rfl | hr
      · simp only [bothOk, Bool.and_eq_true] at hb; exact hb.1.2
      · exact sumFrom_each t _ _ h r hr
    · rw [if_neg hb] at h; cases h
theorem sumFrom_ge : ∀ (l : List (Int × Int)) (x y : Int), (sumFrom l x y).2.2 = true → x ≤ (sumFrom l x y).1 ∧ y ≤ (sumFrom l x y).2.1
  | [], x, y, _ => ⟨Int.le_refl _, Int.le_refl _⟩
  | r :: t, x, y, h => by
    rw [sumFrom] at h ⊢
    by_cases hb : bothOk 1 x y r.1 r.2 = true
    · rw [if_pos hb] at h ⊢
      have := sumFrom_ge t _ _ h
      have hr : resOk r.1 r.2 = true := by simp only [bothOk, Bool.and_eq_true] at hb; exact hb.1.2
      have := resOk_bd hr
      omega
    · rw [if_neg hb] at h; cases h
theorem subs_sum {X Y : Int} (hX : resOk X Y = true) : ∀ (l : List (Int × Int)) (x y : Int), resOk x y = true → x ≤ X → y ≤ Y → (subsOk (X + -1 * x) (Y + -1 * y) l = true ↔ (sumFrom l x y).2.2 = true ∧ (sumFrom l x y).1 ≤ X ∧ (sumFrom l x y).2.1 ≤ Y)
  | [], x, y, h, h1, h2 => by simp [subsOk, sumFrom, h1, h2]
  | r :: t, x, y, h, h1, h2 => by
    have bX := resOk_bd hX
    have bx := resOk_bd h
    rw [subsOk, sumFrom, Bool.and_eq_true]
    by_cases hs : bothOk (-1) (X + -1 * x) (Y + -1 * y) r.1 r.2 = true
    · have hs' := hs
      simp only [bothOk, Bool.and_eq_true] at hs'
      have br := resOk_bd hs'.1.2
      have bs' := resOk_bd hs'.2
      have hr2 : resOk (x + 1 * r.1) (y + 1 * r.2) = true := by simp only [resOk, inB, Bool.and_eq_true, decide_eq_true_eq]; omega
      have hp : bothOk 1 x y r.1 r.2 = true := by simp only [bothOk, Bool.and_eq_true]; exact ⟨⟨h, hs'.1.2⟩, hr2⟩
      rw [if_pos hp]
      have ih := subs_sum hX t (x + 1 * r.1) (y + 1 * r.2) hr2 (by omega) (by omega)
      rw [← ih]
      have e1 : X + -1 * (x + 1 * r.1) = X + -1 * x + -1 * r.1 := by omega
      have e2 : Y + -1 * (y + 1 * r.2) = Y + -1 * y + -1 * r.2 := by omega
      rw [e1, e2]
      exact ⟨fun hh => hh.2, fun hh => ⟨hs, hh⟩⟩
    · refine ⟨fun hh => absurd hh.1 hs, fun ⟨g1, g2, g3⟩ => absurd ?_ hs⟩
      by_cases hp : bothOk 1 x y r.1 r.2 = true
      · rw [if_pos hp] at g1 g2 g3
        have ge := sumFrom_ge t _ _ g1
        have hp' := hp
        simp only [bothOk, Bool.and_eq_true] at hp'
        have br := resOk_bd hp'.1.2
        simp only [bothOk, Bool.and_eq_true]
        refine ⟨⟨?_, hp'.1.2⟩, ?_⟩ <;> simp only [resOk, inB, Bool.and_eq_true, decide_eq_true_eq] <;> omega
      · rw [if_neg hp] at g1; cases g1
theorem hold_subs {cs : List Con} {m : Mac} (hr : resOk m.mem m.cpu = true) : holdM cs m = true ↔ subsOk m.mem m.cpu (usedL (fun q => decide (q.node = m.name)) cs) = true := by
  have h := subs_sum hr (usedL (fun q => decide (q.node = m.name)) cs) 0 0 (by decide) (resOk_bd hr).1 (resOk_bd hr).2.2.1
  rw [show m.mem + -1 * 0 = m.mem by omega, show m.cpu + -1 * 0 = m.cpu by omega] at h
  rw [h]
  simp only [holdM, hr, Bool.true_and, Bool.and_eq_true, sumR, within]
  refine ⟨fun ⟨a, b⟩ => ⟨a, of_decide_eq_true b.1.2, of_decide_eq_true b.2⟩, fun ⟨a, b, c⟩ => ⟨a, ⟨⟨⟨okSum _ 0 0 (by decide), trivial⟩, decide_eq_true b⟩, decide_eq_true c⟩⟩⟩

theorem leT_lt {a b : List UInt8} (h : leT a b = false) : Op.bytesLess (bs b).toList (bs a).toList = true := by
  simp only [leT, Bool.or_eq_false_iff] at h
  exact bl_tri _ _ h.1 (fun e => by rw [e] at h; simp at h)
theorem machs_above {ck : Int} : ∀ (l : List Mac) (last : List UInt8), machsFrom ck last l = true → ∀ m ∈ l, Op.bytesLess (bs last).toList (bs m.name).toList = true
  | [], _, _, m, h => by simp at h
  | q :: t, last, h, m, hm => by
    simp only [machsFrom, Bool.and_eq_true, Bool.not_eq_true'] at h
    have h1 := leT_lt h.1
    rcases List.mem_cons.1 hm with rfl | hm
    · exact h1
    · exact bl_trans _ _ _ h1 (machs_above t q.name h.2.2.2.2 m hm)
theorem machs_find {ck : Int} : ∀ (l : List Mac) (last : List UInt8), machsFrom ck last l = true → ∀ m ∈ l, findM m.name l = some m
  | [], _, _, m, h => by simp at h
  | q :: t, last, h, m, hm => by
    simp only [machsFrom, Bool.and_eq_true, Bool.not_eq_true'] at h
    rcases List.mem_cons.1 hm with rfl | hm
    · simp [findM]
    · have hab := machs_above t q.name h.2.2.2.2 m hm
      have hne : ¬ q.name = m.name := fun e => by rw [e, bl_irr] at hab; cases hab
      have := machs_find t q.name h.2.2.2.2 m hm
      simp only [findM] at this ⊢
      rw [List.find?_cons_of_neg (by simpa using hne)]
      exact this
theorem machsS_iff {ck : Int} {cs : List Con} : ∀ (l : List Mac) (last : List UInt8), machsS ck cs last l = true ↔ machsFrom ck last l = true ∧ ∀ m ∈ l, holdM cs m = true
  | [], _ => by simp [machsS, machsFrom]
  | q :: t, last => by
    simp only [machsS, machsFrom, Bool.and_eq_true, machsS_iff t q.name, List.mem_cons, forall_eq_or_imp]
    exact ⟨fun ⟨a, b, c, d, e, f, g⟩ => ⟨⟨a, b, c, d, f⟩, e, g⟩, fun ⟨⟨a, b, c, d, f⟩, e, g⟩ => ⟨a, b, c, d, e, f, g⟩⟩
theorem contsS_congr {apps : List Appl} {l l' : List Mac} (h : ∀ nm, (findM nm l').isSome = (findM nm l).isSome) : ∀ (cs : List Con) (last : Int), contsS apps l' last cs = contsS apps l last cs
  | [], _ => rfl
  | c :: t, last => by rw [contsS, contsS, h, contsS_congr h t]
theorem used_cons {nm : List UInt8} {c : Con} {t : List Con} : usedL (fun q => decide (q.node = nm)) (c :: t) = if c.node = nm then (c.mem, c.cpu) :: usedL (fun q => decide (q.node = nm)) t else usedL (fun q => decide (q.node = nm)) t := by
  by_cases h : c.node = nm
  · simp [usedL, h]
  · simp [usedL, h]
theorem conts_iff {apps : List Appl} : ∀ (cs : List Con) (l : List Mac) (last : Int), contsFrom apps l last cs = true ↔ contsS apps l last cs = true ∧ ∀ nm m, findM nm l = some m → subsOk m.mem m.cpu (usedL (fun q => decide (q.node = nm)) cs) = true
  | [], l, last => by simp [contsFrom, contsS, usedL, subsOk]
  | c :: t, l, last => by
    cases hf : findM c.node l with
    | none => simp [contsFrom, contsS, hf]
    | some m =>
      have hn := findM_name hf
      have ih := conts_iff (apps := apps) t (⟨m.name, m.mem + -1 * c.mem, m.cpu + -1 * c.cpu, m.seen⟩ :: l) c.id
      have hfind : ∀ nm, findM nm (⟨m.name, m.mem + -1 * c.mem, m.cpu + -1 * c.cpu, m.seen⟩ :: l) = if c.node = nm then some ⟨m.name, m.mem + -1 * c.mem, m.cpu + -1 * c.cpu, m.seen⟩ else findM nm l := fun nm => by
        by_cases e : c.node = nm
        · rw [if_pos e]; simp [findM, hn, e]
        · rw [if_neg e]; simp [findM, hn, e]
      have hsome : ∀ nm, (findM nm (⟨m.name, m.mem + -1 * c.mem, m.cpu + -1 * c.cpu, m.seen⟩ :: l)).isSome = (findM nm l).isSome := fun nm => by
        rw [hfind]
        by_cases e : c.node = nm
        · rw [if_pos e, ← e, hf]
          rfl
        · rw [if_neg e]
      rw [contsS_congr hsome] at ih
      simp only [contsFrom, contsS, hf, Option.isSome_some, Option.getD_some, Bool.true_and, Bool.and_eq_true, ih]
      constructor
      · rintro ⟨a, b, c1, d, e, f, g⟩
        refine ⟨⟨a, b, d, c1, f⟩, fun nm m2 hm2 => ?_⟩
        rw [used_cons]
        by_cases en : c.node = nm
        · rw [if_pos en]
          rw [← en, hf] at hm2
          cases hm2
          rw [subsOk, Bool.and_eq_true]
          exact ⟨e, g nm ⟨m.name, m.mem + -1 * c.mem, m.cpu + -1 * c.cpu, m.seen⟩ (by rw [hfind, if_pos en])⟩
        · rw [if_neg en]
          exact g nm m2 (by rw [hfind, if_neg en]; exact hm2)
      · rintro ⟨⟨a, b, d, c1, f⟩, g⟩
        have g0 := g c.node m hf
        rw [used_cons, if_pos rfl, subsOk, Bool.and_eq_true] at g0
        refine ⟨a, b, c1, d, g0.1, f, fun nm m2 hm2 => ?_⟩
        rw [hfind] at hm2
        by_cases en : c.node = nm
        · rw [if_pos en] at hm2
          cases hm2
          rw [← en]
          exact g0.2
        · rw [if_neg en] at hm2
          have := g nm m2 hm2
          rwa [used_cons, if_neg en] at this
theorem state_same (s : St) : stateOkI s = stateOkS s := by
  rw [Bool.eq_iff_iff]
  simp only [stateOkI, stateOkS, numsOk, machsOkV, machsOkS, contsOkV, Bool.and_eq_true, conts_iff, machsS_iff]
  have key : machsFrom s.clock [] s.ms = true → (sumR (capsOf s.ms)).2.2 = true → ((∀ nm m, findM nm s.ms = some m → subsOk m.mem m.cpu (usedL (fun q => decide (q.node = nm)) s.cs) = true) ↔ ∀ m ∈ s.ms, holdM s.cs m = true) := fun h1 h2 => by
    have hr : ∀ m ∈ s.ms, resOk m.mem m.cpu = true := fun m hm => sumFrom_each _ 0 0 h2 (m.mem, m.cpu) (by simp only [capsOf, List.mem_map]; exact ⟨m, hm, rfl⟩)
    constructor
    · intro h m hm
      exact (hold_subs (hr m hm)).2 (h m.name m (machs_find _ _ h1 m hm))
    · intro h nm m hf
      have hm : m ∈ s.ms := List.mem_of_find?_eq_some hf
      have hn := findM_name hf
      have := (hold_subs (hr m hm)).1 (h m hm)
      rwa [hn] at this
  constructor
  · rintro ⟨a, ⟨b1, b2, b3, b4⟩, c, ⟨d1, d2, d3⟩, e1, e2, e3⟩
    exact ⟨a, b1, b2, b3, b4, c, ⟨⟨d2, (key d2 d3).1 e3⟩, d3, d1⟩, e1, e2⟩
  · rintro ⟨a, b1, b2, b3, b4, c, ⟨⟨d2, hh⟩, d3, d1⟩, e1, e2⟩
    exact ⟨a, ⟨b1, b2, b3, b4⟩, c, ⟨d1, d2, d3⟩, e1, e2, (key d2 d3).2 hh⟩
def stateOkV (s : St) : Bool := stateOkS s
theorem specStateOk_any (x : Sls) (s : St) (w : World) (h : SRow w x s) (hf : FitSt s) :
    Calls Tryz.prog 32 #[sv x s] w fun e w' => e = .returned (.bool (stateOkV s)) ∧ Below w.heap.size w w' := stateOkS_any x s w h hf
theorem implStateOk_any (x : Sls) (s : St) (w : World) (h : SRow w x s) (hf : FitSt s) (hc : x.ql ≤ x.qc) (hw : WfSt s) :
    Calls Tryz.prog 67 #[sv x s] w fun e w' => e = .returned (.bool (stateOkV s)) ∧ Below w.heap.size w w' := by
  have := stateOkI_any x s w h hf hc hw
  rwa [state_same] at this
end Go.Proofs.YtgdndekmkaknlaaGreat

/-
  An application, a machine taken out of a state that is the caller's own, with its containers: what the program's drop and lose leave; walks over the dump.
-/
namespace Go.Proofs.YtgdndekmkaknlaaGreat
open Go.RowKit
set_option linter.unusedVariables false
set_option maxRecDepth 100000 in
set_option maxHeartbeats 4000000 in
theorem drop_st {B : Nat} (app : Int) (b : Nat) (x : Sls) (s : St) (hs : List AV) (w : World) (hk : Blk w b (svc x s) 29) (h : SHas B w x s hs) (hB : B ≤ w.heap.size) (hl : x.cl ≤ 1048576) (hl2 : x.al ≤ 1048576) :
    Calls Tryz.prog 70 #[.pointer (some ⟨b, 0, none⟩), .int .i64 app] w (TkSt B w b ⟨s.qs, s.clock, s.epoch, s.next, s.serial, s.apps.filter (fun a => !decide (a.id = app)), s.ms, s.cs.filter (fun q => !decide (q.app = app))⟩ (hs.filter (fun v => !decide (v.id = app))) (s.cs.filter (fun q => decide (q.app = app)))) := by
  obtain ⟨qa, ql, qc, aa, al, ac, ma, ml, mc, ca, cl, cc⟩ := x
  obtain ⟨qs, clock, epoch, next, serial, apps, ms, cs⟩ := s
  simp only at *
  have hb0 := below_al (Below.refl _ w) (.cells #[.int .i64 app] 3)
  have HB0 := hide hb0
  have CT := hide (takingFromP_any aa al ac hs _ (h.p.1.below hb0) hl2)
  have HLN := hide ((h.p.1.below hb0)).1
  have HK := hide hk
  have HH := hide h
  have hbs := hk.lt
  have V0 := hide (show (w.alloc (.cells #[.int .i64 app] 3)).cell? ⟨w.heap.size, 0, none⟩ = some (.int .i64 app) from (blk_new w #[.int .i64 app] 3).at 0)
  have d5 := (hk.al (.cells #[.int .i64 app] 3)).at 5
  simp at d5
  have hsz0 := al_size w (.cells #[.int .i64 app] 3)
  rw [hsz0] at CT
  clear h hk hb0 hsz0
  go_enter Tryz.func70, Tryz.ntmps70
  go_wp2_with fail
  refine (unhide CT).mono ?_
  rintro e w1 ⟨rfl, ht, hs1, hb⟩
  have HB1 := hide (show Below (w.heap.size + 1) (w.alloc (.cells #[.int .i64 app] 3)) w1 from hb)
  have CA := hide (takeAllP_any 103 #[.pointer (some ⟨w.heap.size, 0, none⟩)] (enters_of Tryz.func103 (by kernel_rfl) rfl) (fun v => decide (v.id = app)) (w.heap.size + 1) (al * 3) hs [] w1 ht (by have := unhide HLN; simp; omega) (fun wx v hq hbx => dropP_clo w.heap.size app v wx ((((unhide HB1).trans hbx).cell (p := ⟨w.heap.size, 0, none⟩) (by simp)).trans (unhide V0))))
  clear ht hb CT
  go_wp2_with fail
  refine (unhide CA).mono ?_
  rintro e w2 ⟨rfl, ht, hb⟩
  have V2 := hide ((((unhide HB1).trans hb).cell (p := ⟨w.heap.size, 0, none⟩) (by simp)).trans (unhide V0))
  have HB2 := hide (show Below w.heap.size w w2 from (unhide HB0).trans (((unhide HB1).trans hb).mono (by omega)))
  have HST := hide (ht.stays (by have := unhide HLN; have := List.length_filter_le (fun v : AV => !decide (v.id = app)) hs; omega))
  obtain ⟨v, hbk, hly, how⟩ := ht
  have k0 := hbk.at 0
  obtain ⟨n1, hn1⟩ : ∃ n, (hs.filter (fun v => !decide (v.id = app))).length = n := ⟨_, rfl⟩
  rw [hn1] at k0
  simp at k0
  have K2 := hide (show Blk w2 b _ 29 from ((unhide HB2).block b hbs).trans (unhide HK))
  have e5 := (unhide K2).at 5
  have f5 := (unhide K2).f 5
  simp at e5
  have HN1 := hide hn1
  have hz2 : w.heap.size + 1 < w2.heap.size := hly.lt
  clear hbk hly how hb HB1 CA d5 hn1
  go_upto_region 4 with fail
  have hm : Mks (fun k => k = b) w2 (w2.setCell ⟨b, 5, none⟩ (.slice (some ⟨w.heap.size + 1, 0, none⟩) n1 n1)) := Mks.one _ _ _ _ _ rfl
  have K3 := hide (show Blk (w2.setCell ⟨b, 5, none⟩ (.slice (some ⟨w.heap.size + 1, 0, none⟩) n1 n1)) b #[.slice qa ql qc, .int .i64 clock, .int .i64 epoch, .int .i64 next, .int .i64 serial, .slice (some ⟨w.heap.size + 1, 0, none⟩) n1 n1, .slice ma ml mc, .slice ca cl cc] 29 from (unhide K2).set 5 _)
  have HM3 := hide (show Mks (fun k => k = b) w (w2.setCell ⟨b, 5, none⟩ (.slice (some ⟨w.heap.size + 1, 0, none⟩) n1 n1)) from mks_of (N := 0) (unhide HB2) (unhide HK) _ 5)
  have HH3 := hide (show SHas B (w2.setCell ⟨b, 5, none⟩ (.slice (some ⟨w.heap.size + 1, 0, none⟩) n1 n1)) ⟨qa, ql, qc, some ⟨w.heap.size + 1, 0, none⟩, n1, n1, ma, ml, mc, ca, cl, cc⟩ ⟨qs, clock, epoch, next, serial, apps.filter (fun a => !decide (a.id = app)), ms, cs⟩ (hs.filter (fun v => !decide (v.id = app))) from ⟨((unhide HH).q.below (unhide HB2)).mkt hm (unhide K2), by have := (unhide HST).mkt hm (unhide K2); rw [unhide HN1] at this; exact this.base (by omega), (((unhide HH).k.below (unhide HB2)).filter (fun i => !decide (i = app))).mkt hm (unhide K2), ((unhide HH).m.below (unhide HB2)).mkt hm (unhide K2), ((unhide HH).c.below (unhide HB2)).mkt hm (unhide K2), ⟨(unhide HH).cap.q, Nat.le_refl _, (unhide HH).cap.m, (unhide HH).cap.c⟩, (fun r => ⟨r.1, (by have := ((unhide HST).mkt hm (unhide K2)); rw [unhide HN1] at this; exact (this.base (B' := B) (by omega)).2), r.2.2.1, r.2.2.2.1, fun v hv => r.2.2.2.2 v (List.mem_filter.1 hv).1⟩) ((((unhide HH).rm.below (unhide HB2)).mks hm).mono (Nat.le_refl _) (Nat.le_trans (unhide HB2).size hm.size))⟩)
  have V3 := hide ((World.cell?_setCell_other w2 ⟨b, 5, none⟩ ⟨w.heap.size, 0, none⟩ (.slice (some ⟨w.heap.size + 1, 0, none⟩) n1 n1) (by simp)).trans (unhide V2))
  have hz3 : w.heap.size + 1 < (w2.setCell ⟨b, 5, none⟩ (.slice (some ⟨w.heap.size + 1, 0, none⟩) n1 n1)).heap.size := by rw [set_size]; exact hz2
  generalize w2.setCell ⟨b, 5, none⟩ (.slice (some ⟨w.heap.size + 1, 0, none⟩) n1 n1) = w3 at K3 HM3 HH3 V3 hz3 ⊢
  have CC := hide (takeConts_st 105 #[.pointer (some ⟨w.heap.size, 0, none⟩)] (enters_of Tryz.func105 (by kernel_rfl) rfl) (fun q => decide (q.app = app)) b ⟨qa, ql, qc, some ⟨w.heap.size + 1, 0, none⟩, n1, n1, ma, ml, mc, ca, cl, cc⟩ ⟨qs, clock, epoch, next, serial, apps.filter (fun a => !decide (a.id = app)), ms, cs⟩ (hs.filter (fun v => !decide (v.id = app))) w3 (unhide K3) (unhide HH3) (by omega) hl (fun wx q hq hbx => dropC_clo w.heap.size app q wx (cellBel (unhide V3) hbx)))
  clear hm HST k0 K2 e5 f5 V2 HB2 hz2
  go_wp2_with fail
  refine (unhide CC).mono ?_
  rintro e w4 ⟨y, go, gn, gc, rfl, h1, h2, h3, h4, h5⟩
  have X1 := hide h1
  have X2 := hide h2
  have X3 := hide (h3.base (B' := w.heap.size) (by omega))
  have X4 := hide h4
  have X5 := hide ((unhide HM3).trans h5)
  clear h1 h2 h3 h4 h5 CC
  go_wp2
  go_ret
  exact ⟨y, go, gn, gc, rfl, unhide X1, unhide X2, unhide X3, unhide X4, unhide X5⟩

end Go.Proofs.YtgdndekmkaknlaaGreat

/-
  What the program's Drop and Lose answer: the state that is left, in memory of its own, and what is gone; walks over the dump.
-/
namespace Go.Proofs.YtgdndekmkaknlaaGreat
open Go.RowKit
set_option linter.unusedVariables false
theorem SHas.sc {B k j : Nat} {v : Value} {w : World} {x : Sls} {s : St} {hs : List AV} (h : SHas B w x s hs) (hk : k < B) : SHas B (w.setCell ⟨k, j, none⟩ v) x s hs := ⟨h.q.sc hk, h.p.sc hk, h.k.sc (.inl hk), h.m.sc hk, h.c.sc hk, h.cap, (h.rm.sc k j v).mono (Nat.le_refl _) (by rw [set_size]; exact Nat.le_refl _)⟩
/-- the answer: a state in memory of its own, and containers in memory of their own -/
def StAns (w : World) (s : St) (gone : List Con) (e : Ending) (w' : World) : Prop :=
  ∃ y hs go gn gc, e = .returned (.tuple #[sv y s, .slice go gn gc]) ∧ SAns w.heap.size w'.heap.size w' y s hs ∧ CHas w.heap.size w' go gn gone ∧ (∀ k, inR go gn k → ¬ inR y.ca y.cl k) ∧ Below w.heap.size w w'
/-- without an application, and what was its -/
def dropV (s : St) (app : Int) : St × List Con :=
  if stateOkV s = true then (⟨s.qs, s.clock, s.epoch, s.next, s.serial, s.apps.filter (fun a => !decide (a.id = app)), s.ms, s.cs.filter (fun q => !decide (q.app = app))⟩, s.cs.filter (fun q => decide (q.app = app))) else (s, [])
theorem dropV_eq (s : St) (app : Int) : (stateOkV s = true → dropV s app = (⟨s.qs, s.clock, s.epoch, s.next, s.serial, s.apps.filter (fun a => !decide (a.id = app)), s.ms, s.cs.filter (fun q => !decide (q.app = app))⟩, s.cs.filter (fun q => decide (q.app = app)))) ∧ (stateOkV s = false → dropV s app = (s, [])) :=
  ⟨fun h => if_pos h, fun h => if_neg (by simp [h])⟩
end Go.Proofs.YtgdndekmkaknlaaGreat

/-
  The laws' own marks at a state that has nothing but queues; walks over the dump.
-/
namespace Go.Proofs.YtgdndekmkaknlaaGreat
open Go.RowKit
set_option linter.unusedVariables false
/-- a state of queues alone, as memory and as what it says -/
abbrev newX (qo : Option Addr) (n c : Nat) : Sls := ⟨qo, n, c, none, 0, 0, none, 0, 0, none, 0, 0⟩
abbrev newSt (l : List Q) (ep nx se : Int) : St := ⟨l, 0, ep, nx, se, [], [], []⟩
theorem new_row {w : World} {qo : Option Addr} {n c : Nat} {l : List Q} (ep nx se : Int) (h : QRow w qo n l) : SRow w (newX qo n c) (newSt l ep nx se) := ⟨h, ⟨rfl, .inl rfl⟩, ⟨rfl, .inl rfl⟩, ⟨rfl, .inl rfl⟩⟩
theorem new_fit {l : List Q} (ep nx se : Int) (h : FitQ l) : FitSt (newSt l ep nx se) := ⟨h, ⟨by simp, by simp⟩, ⟨by simp, by simp⟩, ⟨by simp, by simp⟩⟩

end Go.Proofs.YtgdndekmkaknlaaGreat

/-
  Records: values; which are right, by both sides; walks over the dump.
-/
namespace Go.Proofs.YtgdndekmkaknlaaGreat
open Go.ChangeShapes Go.WideShapes Go.ChangeAt Go.RowKit Go.Deep
set_option linter.unusedVariables false
structure Rc where
  kind : Int
  app : Int
  queue : List UInt8
abbrev rcv (r : Rc) : Value := .agg #[.int .i64 r.kind, .int .i64 r.app, .string (bs r.queue)]
def recOk (r : Rc) : Bool :=
  if r.kind = 0 then inB r.app 1 1000000000 && nameOk r.queue
  else if r.kind = 1 then inB r.app 1 1000000000 && decide (r.queue = [])
  else if r.kind = 2 then decide (r.app = 0) && decide (r.queue = [])
  else false
theorem recOk_bd {r : Rc} (h : recOk r = true) : 0 ≤ r.kind ∧ r.kind ≤ 2 ∧ 0 ≤ r.app ∧ r.app ≤ 1000000000 ∧ r.queue.length ≤ 10 := by
  obtain ⟨k, a, q⟩ := r
  unfold recOk at h
  simp only at h ⊢
  split at h
  · simp only [inB, nameOk, Bool.and_eq_true, decide_eq_true_eq] at h; omega
  split at h
  · simp only [inB, Bool.and_eq_true, decide_eq_true_eq] at h; obtain ⟨h1, rfl⟩ := h; simp; omega
  split at h
  · simp only [Bool.and_eq_true, decide_eq_true_eq] at h; obtain ⟨h1, rfl⟩ := h; simp; omega
  · exact absurd h (by simp)

set_option maxRecDepth 100000 in
set_option maxHeartbeats 4000000 in
theorem specRecOk_any (r : Rc) (w : World) (hq : r.queue.length ≤ 1048576) :
    Calls Tryz.prog 83 #[rcv r] w fun e w' => e = .returned (.bool (recOk r)) ∧ Below w.heap.size w w' := by
  obtain ⟨k, a, q⟩ := r
  simp only at hq
  have hbe := bs_empty q
  obtain ⟨i1, hi1⟩ : ∃ b, inB a 1 1000000000 = b := ⟨_, rfl⟩
  obtain ⟨n1, hn1⟩ : ∃ b, nameOk q = b := ⟨_, rfl⟩
  have C1 := hide (fun wx => by have := l01In_any a 1 1000000000 wx; rw [hi1] at this; exact this)
  have C2 := hide (fun wx => by have := specNameOk_any (bs q) wx (by rw [bs_size]; exact hq); rw [show nameOk (bs q).data.toList = n1 from hn1] at this; exact this)
  have K0 := hide (blk_new w #[.int .i64 k, .int .i64 a, .string (bs q)] 47)
  have HB0 := hide (below_al (Below.refl _ w) (.cells #[.int .i64 k, .int .i64 a, .string (bs q)] 47))
  by_cases h0 : k = 0
  · subst h0
    have HR : recOk ⟨0, a, q⟩ = (i1 && n1) := by simp [recOk, hi1, hn1]
    rw [HR]
    clear hi1 hn1 HR
    cases i1
    · go_enter Tryz.func83, Tryz.ntmps83
      go_wp2_with fail
      refine (unhide C1 _).mono ?_
      rintro e w1 ⟨rfl, rfl⟩
      go_wp2
      go_ret
      exact ⟨rfl, unhide HB0⟩
    · go_enter Tryz.func83, Tryz.ntmps83
      go_wp2_with fail
      refine (unhide C1 _).mono ?_
      rintro e w1 ⟨rfl, rfl⟩
      go_wp2_with fail
      refine (unhide C2 _).mono ?_
      rintro e w2 ⟨rfl, rfl⟩
      go_wp2
      go_ret
      exact ⟨by simp, unhide HB0⟩
  by_cases h1 : k = 1
  · subst h1
    obtain ⟨z, hz⟩ : ∃ b, decide (q = []) = b := ⟨_, rfl⟩
    rw [hz] at hbe
    have HR : recOk ⟨1, a, q⟩ = (i1 && z) := by simp only [recOk, hi1, hz]; rfl
    rw [HR]
    clear hi1 hn1 HR hz
    cases i1 <;> cases z
    all_goals
      go_enter Tryz.func83, Tryz.ntmps83
      go_wp2_with fail
      refine (unhide C1 _).mono ?_
      rintro e w1 ⟨rfl, rfl⟩
      go_wp2
      go_ret
      exact ⟨rfl, unhide HB0⟩
  by_cases h2 : k = 2
  · subst h2
    obtain ⟨z, hz⟩ : ∃ b, decide (q = []) = b := ⟨_, rfl⟩
    rw [hz] at hbe
    by_cases ha : a = 0
    · subst ha
      have HR : recOk ⟨2, 0, q⟩ = z := by simp only [recOk, hz]; rfl
      rw [HR]
      clear hi1 hn1 HR hz
      cases z
      all_goals
        go_enter Tryz.func83, Tryz.ntmps83
        go_wp2
        go_ret
        exact ⟨rfl, unhide HB0⟩
    · have HR : recOk ⟨2, a, q⟩ = false := by simp [recOk, ha]
      rw [HR]
      clear hi1 hn1 HR hz
      go_enter Tryz.func83, Tryz.ntmps83
      go_wp2
      go_ret
      exact ⟨rfl, unhide HB0⟩
  have HR : recOk ⟨k, a, q⟩ = false := by simp [recOk, h0, h1, h2]
  rw [HR]
  clear hi1 hn1 HR
  go_enter Tryz.func83, Tryz.ntmps83
  go_wp2
  go_ret
  exact ⟨rfl, unhide HB0⟩

set_option maxRecDepth 100000 in
set_option maxHeartbeats 4000000 in
theorem implRecOk_any (r : Rc) (w : World) (hq : r.queue.length ≤ 1048576) :
    Calls Tryz.prog 110 #[rcv r] w fun e w' => e = .returned (.bool (recOk r)) ∧ Below w.heap.size w w' := by
  obtain ⟨k, a, q⟩ := r
  simp only at hq
  have hbe := bs_empty q
  obtain ⟨i1, hi1⟩ : ∃ b, inB a 1 1000000000 = b := ⟨_, rfl⟩
  obtain ⟨n1, hn1⟩ : ∃ b, nameOk q = b := ⟨_, rfl⟩
  have C1 := hide (fun wx => by have := countOk_any a wx; rw [hi1] at this; exact this)
  have C2 := hide (fun wx => by have := implNameOk_any (bs q) wx (by rw [bs_size]; exact hq); rw [show nameOk (bs q).data.toList = n1 from hn1] at this; exact this)
  have K0 := hide (blk_new w #[.int .i64 k, .int .i64 a, .string (bs q)] 47)
  have HB0 := hide (below_al (Below.refl _ w) (.cells #[.int .i64 k, .int .i64 a, .string (bs q)] 47))
  by_cases h0 : k = 0
  · subst h0
    have HR : recOk ⟨0, a, q⟩ = (i1 && n1) := by simp [recOk, hi1, hn1]
    rw [HR]
    clear hi1 hn1 HR
    cases i1
    · go_enter Tryz.func110, Tryz.ntmps110
      go_wp2_with fail
      refine (unhide C1 _).mono ?_
      rintro e w1 ⟨rfl, rfl⟩
      go_wp2
      go_ret
      exact ⟨rfl, unhide HB0⟩
    · go_enter Tryz.func110, Tryz.ntmps110
      go_wp2_with fail
      refine (unhide C1 _).mono ?_
      rintro e w1 ⟨rfl, rfl⟩
      go_wp2_with fail
      refine (unhide C2 _).mono ?_
      rintro e w2 ⟨rfl, rfl⟩
      go_wp2
      go_ret
      exact ⟨by simp, unhide HB0⟩
  by_cases h1 : k = 1
  · subst h1
    obtain ⟨z, hz⟩ : ∃ b, decide (q = []) = b := ⟨_, rfl⟩
    rw [hz] at hbe
    have HR : recOk ⟨1, a, q⟩ = (i1 && z) := by simp only [recOk, hi1, hz]; rfl
    rw [HR]
    clear hi1 hn1 HR hz
    cases i1 <;> cases z
    all_goals
      go_enter Tryz.func110, Tryz.ntmps110
      go_wp2_with fail
      refine (unhide C1 _).mono ?_
      rintro e w1 ⟨rfl, rfl⟩
      go_wp2
      go_ret
      exact ⟨rfl, unhide HB0⟩
  by_cases h2 : k = 2
  · subst h2
    obtain ⟨z, hz⟩ : ∃ b, decide (q = []) = b := ⟨_, rfl⟩
    rw [hz] at hbe
    by_cases ha : a = 0
    · subst ha
      have HR : recOk ⟨2, 0, q⟩ = z := by simp only [recOk, hz]; rfl
      rw [HR]
      clear hi1 hn1 HR hz
      cases z
      all_goals
        go_enter Tryz.func110, Tryz.ntmps110
        go_wp2
        go_ret
        exact ⟨rfl, unhide HB0⟩
    · have HR : recOk ⟨2, a, q⟩ = false := by simp [recOk, ha]
      rw [HR]
      clear hi1 hn1 HR hz
      go_enter Tryz.func110, Tryz.ntmps110
      go_wp2
      go_ret
      exact ⟨rfl, unhide HB0⟩
  have HR : recOk ⟨k, a, q⟩ = false := by simp [recOk, h0, h1, h2]
  rw [HR]
  clear hi1 hn1 HR
  go_enter Tryz.func110, Tryz.ntmps110
  go_wp2
  go_ret
  exact ⟨rfl, unhide HB0⟩

end Go.Proofs.YtgdndekmkaknlaaGreat

/-
  What a log's records make of a new state, in plain words; such a state stays right.
-/
namespace Go.Proofs.YtgdndekmkaknlaaGreat
open Go.RowKit
set_option linter.unusedVariables false
/-- a state behind a record -/
def applyV (s : St) (r : Rc) : St :=
  if r.kind = 2 then (if s.epoch < 900000 then ⟨s.qs, s.clock, s.epoch + 1, max s.next ((s.epoch + 1) * 1000 + 1), s.serial, s.apps, s.ms, s.cs⟩ else s)
  else if r.kind = 0 then (if lone s.qs r.queue = true ∧ s.next ≤ r.app ∧ r.app ≤ s.epoch * 1000 + 999 ∧ s.apps.length < 40 then ⟨s.qs, s.clock, s.epoch, r.app + 1, s.serial, s.apps ++ [⟨r.app, r.queue, []⟩], s.ms, s.cs⟩ else s)
  else if r.kind = 1 then ⟨s.qs, s.clock, s.epoch, s.next, s.serial, s.apps.filter (fun a => !decide (a.id = r.app)), s.ms, s.cs.filter (fun q => !decide (q.app = r.app))⟩
  else s
theorem apply_epoch {s : St} {r : Rc} (hk : r.kind = 2) (h : s.epoch < 900000) : applyV s r = ⟨s.qs, s.clock, s.epoch + 1, max s.next ((s.epoch + 1) * 1000 + 1), s.serial, s.apps, s.ms, s.cs⟩ := by rw [applyV, if_pos hk, if_pos h]
theorem apply_last {s : St} {r : Rc} (hk : r.kind = 2) (h : ¬ s.epoch < 900000) : applyV s r = s := by rw [applyV, if_pos hk, if_neg h]
theorem apply_app {s : St} {r : Rc} (hk : r.kind = 0) (h : lone s.qs r.queue = true ∧ s.next ≤ r.app ∧ r.app ≤ s.epoch * 1000 + 999 ∧ s.apps.length < 40) : applyV s r = ⟨s.qs, s.clock, s.epoch, r.app + 1, s.serial, s.apps ++ [⟨r.app, r.queue, []⟩], s.ms, s.cs⟩ := by rw [applyV, if_neg (by omega), if_pos hk, if_pos h]
theorem apply_not {s : St} {r : Rc} (hk : r.kind = 0) (h : ¬ (lone s.qs r.queue = true ∧ s.next ≤ r.app ∧ r.app ≤ s.epoch * 1000 + 999 ∧ s.apps.length < 40)) : applyV s r = s := by rw [applyV, if_neg (by omega), if_pos hk, if_neg h]
theorem apply_done {s : St} {r : Rc} (hk : r.kind = 1) : applyV s r = ⟨s.qs, s.clock, s.epoch, s.next, s.serial, s.apps.filter (fun a => !decide (a.id = r.app)), s.ms, s.cs.filter (fun q => !decide (q.app = r.app))⟩ := by rw [applyV, if_neg (by omega), if_neg (by omega), if_pos hk]
theorem apply_else {s : St} {r : Rc} (h0 : r.kind ≠ 0) (h1 : r.kind ≠ 1) (h2 : r.kind ≠ 2) : applyV s r = s := by rw [applyV, if_neg h2, if_neg h0, if_neg h1]

theorem apps_mono {l : List Q} {nx nx' : Int} (h : nx ≤ nx') : ∀ (t : List Appl) (last : Int), appsFrom l nx last t = true → appsFrom l nx' last t = true
  | [], _, _ => rfl
  | a :: t, last, h1 => by
    simp only [appsFrom, Bool.and_eq_true, decide_eq_true_eq] at h1 ⊢
    exact ⟨h1.1, by omega, h1.2.2.1, h1.2.2.2.1, apps_mono h t a.id h1.2.2.2.2⟩
theorem apps_snoc {l : List Q} {nx app : Int} {q : List UInt8} (h : nx ≤ app) (hq : lone l q = true) : ∀ (t : List Appl) (last : Int), last < app → appsFrom l nx last t = true → appsFrom l (app + 1) last (t ++ [⟨app, q, []⟩]) = true
  | [], last, hl, _ => by
    simp only [List.nil_append, appsFrom, Bool.and_eq_true, decide_eq_true_eq]
    exact ⟨hl, by omega, hq, rfl, trivial⟩
  | a :: t, last, hl, h1 => by
    simp only [List.cons_append, appsFrom, Bool.and_eq_true, decide_eq_true_eq] at h1 ⊢
    exact ⟨h1.1, by omega, h1.2.2.1, h1.2.2.2.1, apps_snoc h hq t a.id (by omega) h1.2.2.2.2⟩
theorem apps_filter {l : List Q} {nx : Int} (p : Appl → Bool) : ∀ (t : List Appl) (last last' : Int), last' ≤ last → appsFrom l nx last t = true → appsFrom l nx last' (t.filter p) = true
  | [], _, _, _, _ => rfl
  | a :: t, last, last', hl, h1 => by
    simp only [appsFrom, Bool.and_eq_true, decide_eq_true_eq] at h1
    by_cases hp : p a = true
    · rw [List.filter_cons_of_pos hp]
      simp only [appsFrom, Bool.and_eq_true, decide_eq_true_eq]
      exact ⟨by omega, h1.2.1, h1.2.2.1, h1.2.2.2.1, apps_filter p t a.id a.id (Int.le_refl _) h1.2.2.2.2⟩
    · rw [List.filter_cons_of_neg hp]
      exact apps_filter p t a.id last' (by omega) h1.2.2.2.2

/-- what is true of a state that a log tells -/
structure RInv (l : List Q) (s : St) : Prop where
  qs : s.qs = l
  clock : s.clock = 0
  serial : s.serial = 1
  ms : s.ms = []
  cs : s.cs = []
  e1 : 1 ≤ s.epoch
  e2 : s.epoch ≤ 900000
  n1 : 1 ≤ s.next
  n2 : s.next ≤ s.epoch * 1000 + 1000
  len : s.apps.length ≤ 40
  ap : appsFrom l s.next 0 s.apps = true
  fit : ∀ a ∈ s.apps, FitAppl1 a
theorem rinv_new (l : List Q) : RInv l (newSt l 1 1001 1) := ⟨rfl, rfl, rfl, rfl, rfl, by simp, by simp, by simp, by simp, by simp, rfl, by simp⟩
theorem rinv_step {l : List Q} {s : St} (h : RInv l s) (hf : FitQ l) (r : Rc) : RInv l (applyV s r) := by
  obtain ⟨h1, h2, h3, h4, h5, h6, h7, h8, h9, h10, h11, h12⟩ := h
  by_cases k2 : r.kind = 2
  · by_cases he : s.epoch < 900000
    · rw [apply_epoch k2 he]
      refine ⟨h1, h2, h3, h4, h5, ?_, ?_, ?_, ?_, h10, apps_mono ?_ _ _ h11, h12⟩ <;> simp only <;> omega
    · rw [apply_last k2 he]; exact ⟨h1, h2, h3, h4, h5, h6, h7, h8, h9, h10, h11, h12⟩
  · by_cases k0 : r.kind = 0
    · by_cases hc : lone s.qs r.queue = true ∧ s.next ≤ r.app ∧ r.app ≤ s.epoch * 1000 + 999 ∧ s.apps.length < 40
      · rw [apply_app k0 hc]
        obtain ⟨c1, c2, c3, c4⟩ := hc
        rw [h1] at c1
        refine ⟨h1, h2, h3, h4, h5, h6, h7, ?_, ?_, ?_, apps_snoc c2 c1 _ _ (by omega) h11, fun a ha => ?_⟩
        · simp only; omega
        · simp only; omega
        · simp only [List.length_append, List.length_cons, List.length_nil]; omega
        · rcases List.mem_append.1 ha with ha | ha
          · exact h12 a ha
          · obtain rfl := List.mem_singleton.1 ha
            have hp : 0 ≤ place l r.queue := by
              simp only [lone, Bool.and_eq_true, decide_eq_true_eq] at c1
              exact c1.2
            obtain ⟨q, hq, e⟩ := place_has hp
            exact ⟨by rw [← e]; exact (hf.2 q hq).1, by simp, by simp⟩
      · rw [apply_not k0 hc]; exact ⟨h1, h2, h3, h4, h5, h6, h7, h8, h9, h10, h11, h12⟩
    · by_cases k1 : r.kind = 1
      · rw [apply_done k1]
        refine ⟨h1, h2, h3, h4, by rw [h5]; rfl, h6, h7, h8, h9, Nat.le_trans (List.length_filter_le _ _) h10, apps_filter _ _ _ _ (Int.le_refl _) h11, fun a ha => h12 a (List.mem_filter.1 ha).1⟩
      · rw [apply_else k0 k1 k2]; exact ⟨h1, h2, h3, h4, h5, h6, h7, h8, h9, h10, h11, h12⟩
theorem rinv_ok {l : List Q} {s : St} (h : RInv l s) (hq : queuesOk l = true) : stateOkV s = true := by
  obtain ⟨qs, clock, epoch, next, serial, apps, ms, cs⟩ := s
  obtain ⟨h1, h2, h3, h4, h5, h6, h7, h8, h9, h10, h11, h12⟩ := h
  simp only at h1 h2 h3 h4 h5 h6 h7 h8 h9 h10 h11 h12
  subst h1 h2 h3 h4 h5
  simp only [stateOkV, stateOkS, Bool.and_eq_true]
  refine ⟨hq, rfl, inB_true h6 (by omega), inB_true h8 (by omega), rfl, ?_, rfl, rfl, rfl⟩
  simp only [appsOkV, Bool.and_eq_true, decide_eq_true_eq]
  exact ⟨h10, h11⟩
theorem rinv_fit {l : List Q} {s : St} (h : RInv l s) (hf : FitQ l) : FitSt s := by
  refine ⟨by rw [h.qs]; exact hf, ⟨by have := h.len; omega, h.fit⟩, ?_, ?_⟩
  · rw [h.ms]; exact ⟨by simp, by simp⟩
  · rw [h.cs]; exact ⟨by simp, by simp⟩
/-- what a log tells of queues that are right -/
def recV (l : List Q) (rs : List Rc) : St := rs.foldl applyV (newSt l 1 1001 1)
theorem recV_take {l : List Q} {rs : List Rc} {k : Nat} (h : k < rs.length) : recV l (rs.take (k + 1)) = applyV (recV l (rs.take k)) rs[k] := by
  rw [List.take_succ_eq_append_getElem h, recV, List.foldl_append]; rfl
theorem rinv_all {l : List Q} (hf : FitQ l) : ∀ (rs : List Rc) (s : St), RInv l s → RInv l (rs.foldl applyV s)
  | [], s, h => h
  | r :: t, s, h => rinv_all hf t (applyV s r) (rinv_step h hf r)
theorem rinv_rec {l : List Q} (hf : FitQ l) (rs : List Rc) : RInv l (recV l rs) := rinv_all hf rs _ (rinv_new l)
end Go.Proofs.YtgdndekmkaknlaaGreat

/-
  Rows that stand while another grows.
-/
namespace Go.Proofs.YtgdndekmkaknlaaGreat
open Go.RowKit
set_option linter.unusedVariables false
theorem cellEq {w w' : World} {b p : Nat} {u : Value} (h : w.cell? ⟨b, p, none⟩ = some u) (hb : w'.heap[b]? = w.heap[b]?) : w'.cell? ⟨b, p, none⟩ = some u := (World.cell?_of_block (w := w) (a := ⟨b, p, none⟩) hb).trans h
theorem QRow.kept {w w' : World} {ao : Option Addr} {len : Nat} {l : List Q} (h : QRow w ao len l) (hs : ∀ k, inR ao len k → w'.heap[k]? = w.heap[k]?) : QRow w' ao len l := by
  obtain ⟨h1, h2⟩ := h
  refine ⟨h1, ?_⟩
  rcases h2 with h2 | ⟨b, off, h3, h4⟩
  · exact .inl h2
  · by_cases hz : len = 0
    · exact .inl hz
    · have hb := hs b ⟨hz, off, h3⟩
      exact .inr ⟨b, off, h3, fun i h => let ⟨a, c, d, e⟩ := h4 i h; ⟨cellEq a hb, cellEq c hb, cellEq d hb, cellEq e hb⟩⟩
theorem MacRow.kept {w w' : World} {ao : Option Addr} {len : Nat} {l : List Mac} (h : MacRow w ao len l) (hs : ∀ k, inR ao len k → w'.heap[k]? = w.heap[k]?) : MacRow w' ao len l := by
  obtain ⟨h1, h2⟩ := h
  refine ⟨h1, ?_⟩
  rcases h2 with h2 | ⟨b, off, h3, h4⟩
  · exact .inl h2
  · by_cases hz : len = 0
    · exact .inl hz
    · have hb := hs b ⟨hz, off, h3⟩
      exact .inr ⟨b, off, h3, fun i h => let ⟨a, c, d, e⟩ := h4 i h; ⟨cellEq a hb, cellEq c hb, cellEq d hb, cellEq e hb⟩⟩
theorem ConRow.kept {w w' : World} {ao : Option Addr} {len : Nat} {l : List Con} (h : ConRow w ao len l) (hs : ∀ k, inR ao len k → w'.heap[k]? = w.heap[k]?) : ConRow w' ao len l := by
  obtain ⟨h1, h2⟩ := h
  refine ⟨h1, ?_⟩
  rcases h2 with h2 | ⟨b, off, h3, h4⟩
  · exact .inl h2
  · by_cases hz : len = 0
    · exact .inl hz
    · have hb := hs b ⟨hz, off, h3⟩
      exact .inr ⟨b, off, h3, fun i h => let ⟨a, c, d, e, f⟩ := h4 i h; ⟨cellEq a hb, cellEq c hb, cellEq d hb, cellEq e hb, cellEq f hb⟩⟩
theorem AskRow.kept {w w' : World} {ao : Option Addr} {len : Nat} {l : List Ask} (h : AskRow w ao len l) (hs : ∀ k, inR ao len k → w'.heap[k]? = w.heap[k]?) : AskRow w' ao len l := by
  obtain ⟨h1, h2⟩ := h
  refine ⟨h1, ?_⟩
  rcases h2 with h2 | ⟨b, off, h3, h4⟩
  · exact .inl h2
  · by_cases hz : len = 0
    · exact .inl hz
    · have hb := hs b ⟨hz, off, h3⟩
      exact .inr ⟨b, off, h3, fun i h => let ⟨a, c, d, e, f⟩ := h4 i h; ⟨cellEq a hb, cellEq c hb, cellEq d hb, cellEq e hb, cellEq f hb⟩⟩
theorem AVRow.kept {w w' : World} {ao : Option Addr} {len : Nat} {l : List AV} (h : AVRow w ao len l) (hs : ∀ k, inR ao len k → w'.heap[k]? = w.heap[k]?) : AVRow w' ao len l := by
  obtain ⟨h1, h2⟩ := h
  refine ⟨h1, ?_⟩
  rcases h2 with h2 | ⟨b, off, h3, h4⟩
  · exact .inl h2
  · by_cases hz : len = 0
    · exact .inl hz
    · have hb := hs b ⟨hz, off, h3⟩
      exact .inr ⟨b, off, h3, fun i h => let ⟨a, c, d⟩ := h4 i h; ⟨cellEq a hb, cellEq c hb, cellEq d hb⟩⟩

/-- a row grows: those of other types stand -/
theorem own_grown {B : Nat} {w w' : World} {t t' : TypeId} {sz n : Nat} {ao : Option Addr} {r : Option Nat} (h : Own1 B w.heap.size w t sz ao n) (hg : w.grownBy w' r) (hr : ∀ k, r = some k → ∃ N, Cel w t' k N) (ht : t' ≠ t) : (∀ k, inR ao n k → w'.heap[k]? = w.heap[k]?) ∧ Own1 B w'.heap.size w' t sz ao n := by
  have key : ∀ k, inR ao n k → w'.heap[k]? = w.heap[k]? := fun k hk => by
    obtain ⟨_, h2, N, h3⟩ := h.lies k hk
    refine hg.block k h2 (fun e => ?_)
    obtain ⟨N', h4⟩ := hr k e.symm
    exact ht (h4.type h3)
  refine ⟨key, ?_⟩
  rcases h with e | ⟨g, M, e, h1, h2, h3, h4⟩
  · exact .inl e
  · by_cases hz : n = 0
    · exact .inl hz
    · exact .inr ⟨g, M, e, h1, Nat.lt_of_lt_of_le h2 hg.size, h3.of_block (key g ⟨hz, 0, e⟩), h4⟩
theorem QHas.grown {B n : Nat} {w w' : World} {t' : TypeId} {ao : Option Addr} {l : List Q} {r : Option Nat} (h : QHas B w ao n l) (hg : w.grownBy w' r) (hr : ∀ k, r = some k → ∃ N, Cel w t' k N) (ht : t' ≠ 48) : QHas B w' ao n l := ⟨h.1.kept (own_grown h.2 hg hr ht).1, (own_grown h.2 hg hr ht).2⟩
theorem MHas.grown {B n : Nat} {w w' : World} {t' : TypeId} {ao : Option Addr} {l : List Mac} {r : Option Nat} (h : MHas B w ao n l) (hg : w.grownBy w' r) (hr : ∀ k, r = some k → ∃ N, Cel w t' k N) (ht : t' ≠ 102) : MHas B w' ao n l := ⟨h.1.kept (own_grown h.2 hg hr ht).1, (own_grown h.2 hg hr ht).2⟩
theorem CHas.grown {B n : Nat} {w w' : World} {t' : TypeId} {ao : Option Addr} {l : List Con} {r : Option Nat} (h : CHas B w ao n l) (hg : w.grownBy w' r) (hr : ∀ k, r = some k → ∃ N, Cel w t' k N) (ht : t' ≠ 105) : CHas B w' ao n l := ⟨h.1.kept (own_grown h.2 hg hr ht).1, (own_grown h.2 hg hr ht).2⟩
theorem PHas.grown {B n : Nat} {w w' : World} {t' : TypeId} {ao : Option Addr} {l : List AV} {r : Option Nat} (h : PHas B w ao n l) (hg : w.grownBy w' r) (hr : ∀ k, r = some k → ∃ N, Cel w t' k N) (ht : t' ≠ 71) : PHas B w' ao n l := ⟨h.1.kept (own_grown h.2 hg hr ht).1, (own_grown h.2 hg hr ht).2⟩
theorem KHas.grown {B : Nat} {w w' : World} {t' : TypeId} {hs : List AV} {l : List Appl} {r : Option Nat} (h : KHas B w hs l) (hg : w.grownBy w' r) (hr : ∀ k, r = some k → ∃ N, Cel w t' k N) (ht : t' ≠ 128) : KHas B w' hs l :=
  ⟨⟨h.heads.1, fun i h1 h2 => let ⟨a, b, c, d⟩ := h.heads.2 i h1 h2; ⟨a, b, c.kept (own_grown (h.own _ (List.getElem_mem h1)) hg hr ht).1, d⟩⟩, fun v hv => (own_grown (h.own v hv) hg hr ht).2, h.apart⟩
/-- the block of a row that is owned is a row of that type -/
theorem owns_cel {w : World} {B sz n : Nat} {e : TypeId} {v : Value} {xs : List Value} (h : w.ownsRow B e sz v n xs) : ∀ k, v.ownBlock = some k → ∃ N, Cel w e k N := fun k hk => by
  rcases h.2 with ⟨rfl, _⟩ | ⟨g, cap, cur, rfl, _, h2, _⟩
  · simp [Value.ownBlock] at hk
  · obtain rfl : g = k := by simpa [Value.ownBlock] using hk
    exact ⟨_, cur, h2, rfl⟩
theorem Blk.grown {w w' : World} {g : Nat} {arr : Array Value} {t t' : TypeId} {r : Option Nat} (h : Blk w g arr t) (hg : w.grownBy w' r) (hr : ∀ k, r = some k → ∃ N, Cel w t' k N) (ht : t' ≠ t) : Blk w' g arr t :=
  (hg.block g h.lt (fun e => by obtain ⟨N, h4⟩ := hr g e.symm; exact ht (h4.type ⟨arr, h, rfl⟩))).trans h
theorem grown_sc (w : World) (g j : Nat) (v : Value) : w.grownBy (w.setCell ⟨g, j, none⟩ v) (some g) := ⟨rfl, rfl, rfl, by simp [World.setCell], fun k _ hne => Below.heap_setCell _ _ _ _ (by show k ≠ g; intro e; exact hne (by rw [e]))⟩
/-- a list that is nil has no room -/
structure SSome (x : Sls) (hs : List AV) : Prop where
  q : x.qa = none → x.ql = 0 ∧ x.qc = 0
  m : x.ma = none → x.ml = 0 ∧ x.mc = 0
  c : x.ca = none → x.cl = 0 ∧ x.cc = 0
  k : ∀ v ∈ hs, v.ao = none → v.len = 0 ∧ v.cap = 0
theorem none_cap {B E : Nat} {w : World} {t : TypeId} {sz c n : Nat} {ao : Option Addr} (h : Own1 B E w t sz ao c) (hn : n ≤ c) (e : ao = none) : n = 0 ∧ c = 0 := by
  rcases h with h | ⟨g, M, h1, _⟩
  · omega
  · rw [e] at h1; cases h1
theorem SAns.some {B E : Nat} {w : World} {x : Sls} {s : St} {hs : List AV} (h : SAns B E w x s hs) : SSome x hs :=
  ⟨none_cap h.rm.1 h.cap.q, none_cap h.rm.2.2.1 h.cap.m, none_cap h.rm.2.2.2.1 h.cap.c, fun v hv => none_cap (h.rm.2.2.2.2 v hv) (by
    obtain ⟨i, hi, rfl⟩ := List.getElem_of_mem hv
    exact (h.heads.2 i hi (by rw [← h.heads.1]; exact hi)).2.2.2)⟩
end Go.Proofs.YtgdndekmkaknlaaGreat

/-
  'append(own, src...)' where the source may be nil: one law for both.
-/
namespace Go.Proofs.YtgdndekmkaknlaaGreat
open Go.RowKit
set_option linter.unusedVariables false
theorem wpList_append_opt {P : Program} (w : World) {ops : Array Oper} {rest : List Oper} {o : Oper} {a : Act} {Q : Exit → Act → World → Prop} (hgd : o.guard = none) (s x : Operand) (t : TypeId)
    (ho : o.op = .call { callee := .builtin .append, args := #[s, x], argTypes := #[t, t] })
    (base : Nat) (e : TypeId) (i : TypeInfo) (z : Value) (size bytes : Nat) (ht : P.underlying t = some (.slice e)) (hi : P.info? e = some i) (hz : i.zero = some z)
    (hsize : i.size = size) (hby : i.bytes = bytes) (hzs : z.cells.size = size) (hsz : 0 < size)
    (v : Value) (n : Nat) (xs : List Value) (hs : a.eval s = v) (hown : w.ownsRow base e size v n xs)
    (ao : Option Addr) (m c : Nat) (news : List Value) (hx : a.eval x = .slice ao m c) (hn : ao = none → m = 0 ∧ c = 0) (hl : news.length = m * size) (hnews : ∀ ad, ao = some ad → ∀ j u, news[j]? = some u → w.cell? (ad.add j) = some u) (h1 : ∀ u ∈ news, u.oneCell' = true)
    (h63 : n + m ≤ maxLen) (hbytes : (n + m) * bytes ≤ 140737488355328) (hbase : base ≤ w.heap.size)
    (h : ∀ v' w', w'.ownsRow base e size v' (n + m) (xs ++ news) → w.grownBy w' v.ownBlock → (v' = .slice none 0 0 ↔ v = .slice none 0 0 ∧ m = 0) → wpList P ops Q rest (a.put o.dst v') w') : wpList P ops Q (o :: rest) a w := by
  cases ao with
  | some ad => exact wpList_append_own w hgd s x t ho base e i z size bytes ht hi hz hsize hby hzs hsz v n xs hs hown ad m c news hx hl (hnews ad rfl) h1 h63 hbytes hbase h
  | none =>
    obtain ⟨rfl, rfl⟩ := hn rfl
    obtain rfl : news = [] := List.eq_nil_of_length_eq_zero (by omega)
    refine wpList_append_own_none hgd s x t ho base e i size ht hi v n xs hs hown hx (h v w (by simpa using hown) ⟨rfl, rfl, rfl, Nat.le_refl _, fun _ _ _ => rfl⟩ (by simp))
end Go.Proofs.YtgdndekmkaknlaaGreat
