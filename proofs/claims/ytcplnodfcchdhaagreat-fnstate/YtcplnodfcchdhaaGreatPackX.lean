/-
  Several texts of this claim in one: OkM, NewLaw, NewHas, UsedI, UsedOnI, FreeOnM, UsedOnS, UsedOnB (pack.py put them together); each says in its own remark what is proved.
-/
import Derived.Test.YtcplnodfcchdhaaGreatPackM
import Derived.Test.YtcplnodfcchdhaaGreatPackV
import Derived.Test.YtcplnodfcchdhaaGreatOkI
import Derived.Test.YtcplnodfcchdhaaGreatPackG
import Derived.Test.YtcplnodfcchdhaaGreatPackR
import Derived.Test.YtcplnodfcchdhaaGreatPackL
import Derived.Shelf.Abstract
import Derived.Test.YtcplnodfcchdhaaGreatPackS
import Derived.Test.YtcplnodfcchdhaaGreatMacAt
import Derived.Test.YtcplnodfcchdhaaGreatPackW
import Derived.Test.YtcplnodfcchdhaaGreatStAll
/-
  A state is right: that the program's way and the model's way to ask are one; plain words.
-/
namespace Go.Proofs.YtcplnodfcchdhaaGreat
open Go.RowKit
set_option linter.unusedVariables false
/-- one amount behind the other taken away from what there is -/
def subsOk : Int → Int → List (Int × Int) → Bool
  | _, _, [] => true
  | x, y, r :: t => bothOk (-1) x y r.1 r.2 && subsOk (x + -1 * r.1) (y + -1 * r.2) t
theorem okSum : ∀ (l : List (Int × Int)) (x y : Int), resOk x y = true → resOk (sumFrom l x y).1 (sumFrom l x y).2.1 = true
  | [], x, y, h => h
  | r :: t, x, y, h => by
    rw [sumFrom]
    by_cases hb : bothOk 1 x y r.1 r.2 = true
    · rw [if_pos hb]
      refine okSum t _ _ ?_
      simp only [bothOk, Bool.and_eq_true] at hb
      exact hb.2
    · rw [if_neg hb]; decide
theorem sumFrom_each : ∀ (l : List (Int × Int)) (x y : Int), (sumFrom l x y).2.2 = true → ∀ r ∈ l, resOk r.1 r.2 = true
  | [], x, y, _, r, h => by simp at h
  | q :: t, x, y, h, r, hr => by
    rw [sumFrom] at h
    by_cases hb : bothOk 1 x y q.1 q.2 = true
    · rw [if_pos hb] at h
      rcases List.mem_cons.1 hr with rfl | hr
      · simp only [bothOk, Bool.and_eq_true] at hb; exact hb.1.2
      · exact sumFrom_each t _ _ h r hr
    · rw [if_neg hb] at h; cases h
theorem sumFrom_ge : ∀ (l : List (Int × Int)) (x y : Int), (sumFrom l x y).2.2 = true → x ≤ (sumFrom l x y).1 ∧ y ≤ (sumFrom l x y).2.1
  | [], x, y, _ => ⟨Int.le_refl _, Int.le_refl _⟩
  | r :: t, x, y, h => by
    rw [sumFrom] at h ⊢
    by_cases hb : bothOk 1 x y r.1 r.2 = true
    · rw [if_pos hb] at h ⊢
      have := sumFrom_ge t _ _ h
      have hr : resOk r.1 r.2 = true := by simp only [bothOk, Bool.and_eq_true] at hb; exact hb.1.2
      have := resOk_bd hr
      omega
    · rw [if_neg hb] at h; cases h
theorem subs_sum {X Y : Int} (hX : resOk X Y = true) : ∀ (l : List (Int × Int)) (x y : Int), resOk x y = true → x ≤ X → y ≤ Y → (subsOk (X + -1 * x) (Y + -1 * y) l = true ↔ (sumFrom l x y).2.2 = true ∧ (sumFrom l x y).1 ≤ X ∧ (sumFrom l x y).2.1 ≤ Y)
  | [], x, y, h, h1, h2 => by simp [subsOk, sumFrom, h1, h2]
  | r :: t, x, y, h, h1, h2 => by
    have bX := resOk_bd hX
    have bx := resOk_bd h
    rw [subsOk, sumFrom, Bool.and_eq_true]
    by_cases hs : bothOk (-1) (X + -1 * x) (Y + -1 * y) r.1 r.2 = true
    · have hs' := hs
      simp only [bothOk, Bool.and_eq_true] at hs'
      have br := resOk_bd hs'.1.2
      have bs' := resOk_bd hs'.2
      have hr2 : resOk (x + 1 * r.1) (y + 1 * r.2) = true := by simp only [resOk, inB, Bool.and_eq_true, decide_eq_true_eq]; omega
      have hp : bothOk 1 x y r.1 r.2 = true := by simp only [bothOk, Bool.and_eq_true]; exact ⟨⟨h, hs'.1.2⟩, hr2⟩
      rw [if_pos hp]
      have ih := subs_sum hX t (x + 1 * r.1) (y + 1 * r.2) hr2 (by omega) (by omega)
      rw [← ih]
      have e1 : X + -1 * (x + 1 * r.1) = X + -1 * x + -1 * r.1 := by omega
      have e2 : Y + -1 * (y + 1 * r.2) = Y + -1 * y + -1 * r.2 := by omega
      rw [e1, e2]
      exact ⟨fun hh => hh.2, fun hh => ⟨hs, hh⟩⟩
    · refine ⟨fun hh => absurd hh.1 hs, fun ⟨g1, g2, g3⟩ => absurd ?_ hs⟩
      by_cases hp : bothOk 1 x y r.1 r.2 = true
      · rw [if_pos hp] at g1 g2 g3
        have ge := sumFrom_ge t _ _ g1
        have hp' := hp
        simp only [bothOk, Bool.and_eq_true] at hp'
        have br := resOk_bd hp'.1.2
        simp only [bothOk, Bool.and_eq_true]
        refine ⟨⟨?_, hp'.1.2⟩, ?_⟩ <;> simp only [resOk, inB, Bool.and_eq_true, decide_eq_true_eq] <;> omega
      · rw [if_neg hp] at g1; cases g1
theorem hold_subs {cs : List Con} {m : Mac} (hr : resOk m.mem m.cpu = true) : holdM cs m = true ↔ subsOk m.mem m.cpu (usedL (fun q => decide (q.node = m.name)) cs) = true := by
  have h := subs_sum hr (usedL (fun q => decide (q.node = m.name)) cs) 0 0 (by decide) (resOk_bd hr).1 (resOk_bd hr).2.2.1
  rw [show m.mem + -1 * 0 = m.mem by omega, show m.cpu + -1 * 0 = m.cpu by omega] at h
  rw [h]
  simp only [holdM, hr, Bool.true_and, Bool.and_eq_true, sumR, within]
  refine ⟨fun ⟨a, b⟩ => ⟨a, of_decide_eq_true b.1.2, of_decide_eq_true b.2⟩, fun ⟨a, b, c⟩ => ⟨a, ⟨⟨⟨okSum _ 0 0 (by decide), trivial⟩, decide_eq_true b⟩, decide_eq_true c⟩⟩⟩

theorem leT_lt {a b : List UInt8} (h : leT a b = false) : Op.bytesLess (bs b).toList (bs a).toList = true := by
  simp only [leT, Bool.or_eq_false_iff] at h
  exact bl_tri _ _ h.1 (fun e => by rw [e] at h; simp at h)
theorem machs_above {ck : Int} : ∀ (l : List Mac) (last : List UInt8), machsFrom ck last l = true → ∀ m ∈ l, Op.bytesLess (bs last).toList (bs m.name).toList = true
  | [], _, _, m, h => by simp at h
  | q :: t, last, h, m, hm => by
    simp only [machsFrom, Bool.and_eq_true, Bool.not_eq_true'] at h
    have h1 := leT_lt h.1
    rcases List.mem_cons.1 hm with rfl | hm
    · exact h1
    · exact bl_trans _ _ _ h1 (machs_above t q.name h.2.2.2.2 m hm)
theorem machs_find {ck : Int} : ∀ (l : List Mac) (last : List UInt8), machsFrom ck last l = true → ∀ m ∈ l, findM m.name l = some m
  | [], _, _, m, h => by simp at h
  | q :: t, last, h, m, hm => by
    simp only [machsFrom, Bool.and_eq_true, Bool.not_eq_true'] at h
    rcases List.mem_cons.1 hm with rfl | hm
    · simp [findM]
    · have hab := machs_above t q.name h.2.2.2.2 m hm
      have hne : ¬ q.name = m.name := fun e => by rw [e, bl_irr] at hab; cases hab
      have := machs_find t q.name h.2.2.2.2 m hm
      simp only [findM] at this ⊢
      rw [List.find?_cons_of_neg (by simpa using hne)]
      exact this
theorem machsS_iff {ck : Int} {cs : List Con} : ∀ (l : List Mac) (last : List UInt8), machsS ck cs last l = true ↔ machsFrom ck last l = true ∧ ∀ m ∈ l, holdM cs m = true
  | [], _ => by simp [machsS, machsFrom]
  | q :: t, last => by
    simp only [machsS, machsFrom, Bool.and_eq_true, machsS_iff t q.name, List.mem_cons, forall_eq_or_imp]
    exact ⟨fun ⟨a, b, c, d, e, f, g⟩ => ⟨⟨a, b, c, d, f⟩, e, g⟩, fun ⟨⟨a, b, c, d, f⟩, e, g⟩ => ⟨a, b, c, d, e, f, g⟩⟩
theorem contsS_congr {apps : List Appl} {l l' : List Mac} (h : ∀ nm, (findM nm l').isSome = (findM nm l).isSome) : ∀ (cs : List Con) (last : Int), contsS apps l' last cs = contsS apps l last cs
  | [], _ => rfl
  | c :: t, last => by rw [contsS, contsS, h, contsS_congr h t]
theorem used_cons {nm : List UInt8} {c : Con} {t : List Con} : usedL (fun q => decide (q.node = nm)) (c :: t) = if c.node = nm then (c.mem, c.cpu) :: usedL (fun q => decide (q.node = nm)) t else usedL (fun q => decide (q.node = nm)) t := by
  by_cases h : c.node = nm
  · simp [usedL, h]
  · simp [usedL, h]
theorem conts_iff {apps : List Appl} : ∀ (cs : List Con) (l : List Mac) (last : Int), contsFrom apps l last cs = true ↔ contsS apps l last cs = true ∧ ∀ nm m, findM nm l = some m → subsOk m.mem m.cpu (usedL (fun q => decide (q.node = nm)) cs) = true
  | [], l, last => by simp [contsFrom, contsS, usedL, subsOk]
  | c :: t, l, last => by
    cases hf : findM c.node l with
    | none => simp [contsFrom, contsS, hf]
    | some m =>
      have hn := findM_name hf
      have ih := conts_iff (apps := apps) t (⟨m.name, m.mem + -1 * c.mem, m.cpu + -1 * c.cpu, m.seen⟩ :: l) c.id
      have hfind : ∀ nm, findM nm (⟨m.name, m.mem + -1 * c.mem, m.cpu + -1 * c.cpu, m.seen⟩ :: l) = if c.node = nm then some ⟨m.name, m.mem + -1 * c.mem, m.cpu + -1 * c.cpu, m.seen⟩ else findM nm l := fun nm => by
        by_cases e : c.node = nm
        · rw [if_pos e]; simp [findM, hn, e]
        · rw [if_neg e]; simp [findM, hn, e]
      have hsome : ∀ nm, (findM nm (⟨m.name, m.mem + -1 * c.mem, m.cpu + -1 * c.cpu, m.seen⟩ :: l)).isSome = (findM nm l).isSome := fun nm => by
        rw [hfind]
        by_cases e : c.node = nm
        · rw [if_pos e, ← e, hf]
          rfl
        · rw [if_neg e]
      rw [contsS_congr hsome] at ih
      simp only [contsFrom, contsS, hf, Option.isSome_some, Option.getD_some, Bool.true_and, Bool.and_eq_true, ih]
      constructor
      · rintro ⟨a, b, c1, d, e, f, g⟩
        refine ⟨⟨a, b, d, c1, f⟩, fun nm m2 hm2 => ?_⟩
        rw [used_cons]
        by_cases en : c.node = nm
        · rw [if_pos en]
          rw [← en, hf] at hm2
          cases hm2
          rw [subsOk, Bool.and_eq_true]
          exact ⟨e, g nm ⟨m.name, m.mem + -1 * c.mem, m.cpu + -1 * c.cpu, m.seen⟩ (by rw [hfind, if_pos en])⟩
        · rw [if_neg en]
          exact g nm m2 (by rw [hfind, if_neg en]; exact hm2)
      · rintro ⟨⟨a, b, d, c1, f⟩, g⟩
        have g0 := g c.node m hf
        rw [used_cons, if_pos rfl, subsOk, Bool.and_eq_true] at g0
        refine ⟨a, b, c1, d, g0.1, f, fun nm m2 hm2 => ?_⟩
        rw [hfind] at hm2
        by_cases en : c.node = nm
        · rw [if_pos en] at hm2
          cases hm2
          rw [← en]
          exact g0.2
        · rw [if_neg en] at hm2
          have := g nm m2 hm2
          rwa [used_cons, if_neg en] at this
theorem state_same (s : St) : stateOkI s = stateOkS s := by
  rw [Bool.eq_iff_iff]
  simp only [stateOkI, stateOkS, numsOk, machsOkV, machsOkS, contsOkV, Bool.and_eq_true, conts_iff, machsS_iff]
  have key : machsFrom s.clock [] s.ms = true → (sumR (capsOf s.ms)).2.2 = true → ((∀ nm m, findM nm s.ms = some m → subsOk m.mem m.cpu (usedL (fun q => decide (q.node = nm)) s.cs) = true) ↔ ∀ m ∈ s.ms, holdM s.cs m = true) := fun h1 h2 => by
    have hr : ∀ m ∈ s.ms, resOk m.mem m.cpu = true := fun m hm => sumFrom_each _ 0 0 h2 (m.mem, m.cpu) (by simp only [capsOf, List.mem_map]; exact ⟨m, hm, rfl⟩)
    constructor
    · intro h m hm
      exact (hold_subs (hr m hm)).2 (h m.name m (machs_find _ _ h1 m hm))
    · intro h nm m hf
      have hm : m ∈ s.ms := List.mem_of_find?_eq_some hf
      have hn := findM_name hf
      have := (hold_subs (hr m hm)).1 (h m hm)
      rwa [hn] at this
  constructor
  · rintro ⟨a, ⟨b1, b2, b3, b4⟩, c, ⟨d1, d2, d3⟩, e1, e2, e3⟩
    exact ⟨a, b1, b2, b3, b4, c, ⟨⟨d2, (key d2 d3).1 e3⟩, d3, d1⟩, e1, e2⟩
  · rintro ⟨a, b1, b2, b3, b4, c, ⟨⟨d2, hh⟩, d3, d1⟩, e1, e2⟩
    exact ⟨a, ⟨b1, b2, b3, b4⟩, c, ⟨d1, d2, d3⟩, e1, e2, (key d2 d3).2 hh⟩
def stateOkV (s : St) : Bool := stateOkS s
theorem specStateOk_any (x : Sls) (s : St) (w : World) (h : SRow w x s) (hf : FitSt s) :
    Calls Tryz.prog 24 #[sv x s] w fun e w' => e = .returned (.bool (stateOkV s)) ∧ Below w.heap.size w w' := stateOkS_any x s w h hf
theorem implStateOk_any (x : Sls) (s : St) (w : World) (h : SRow w x s) (hf : FitSt s) (hc : x.ql ≤ x.qc) (hw : WfSt s) :
    Calls Tryz.prog 23 #[sv x s] w fun e w' => e = .returned (.bool (stateOkV s)) ∧ Below w.heap.size w w' := by
  have := stateOkI_any x s w h hf hc hw
  rwa [state_same] at this
end Go.Proofs.YtcplnodfcchdhaaGreat

/-
  What StateNew answers, in one form for both answers; the laws' own marks on it.
-/
namespace Go.Proofs.YtcplnodfcchdhaaGreat
open Go.RowKit
set_option linter.unusedVariables false
def qlN (l : List Q) : List Q := if queuesOk l = true then l else []
def epN (l : List Q) : Int := if queuesOk l = true then 1 else 0
def nxN (l : List Q) : Int := if queuesOk l = true then 1001 else 0
theorem new_ok (l : List Q) : stateOkV (newSt l 1 1001 1) = queuesOk l := by
  have h1 : appsOkV (newSt l 1 1001 1) = true := rfl
  have h2 : machsOkS (newSt l 1 1001 1) = true := rfl
  simp only [stateOkV, stateOkS, h1, h2]
  rw [show (inB 0 0 1000000000 && (inB 1 1 1000000000 && (inB 1001 1 1000000000 && (inB 1 1 1000000000 && (true && (true && (decide (([] : List Con).length ≤ 150) && contsS [] [] 0 []))))))) = true from rfl, Bool.and_true]
/-- the answer, a state in a box to come, whose queues own their memory -/
theorem NewAns.one {w w' : World} {l : List Q} {e : Ending} (h : NewAns w l e w') : ∃ qo n c, e = .returned (.tuple #[.agg (svc (newX qo n c) (newSt (qlN l) (epN l) (nxN l) (epN l))), .bool (queuesOk l)]) ∧ n = (qlN l).length ∧ QOwn (w.heap.size + 1) w' (.slice qo n c) (qlN l) ∧ Below w.heap.size w w' := by
  obtain ⟨hb, ⟨ho, rfl⟩ | ⟨ho, v, rfl, hown⟩⟩ := h
  · refine ⟨none, 0, 0, ?_, ?_, ?_, hb⟩
    · simp [qlN, epN, nxN, ho]
    · simp [qlN, ho]
    · simp only [qlN, ho]; exact qown_nil _ _
  · obtain ⟨qo, qc, rfl, _⟩ := qown_rowx hown
    refine ⟨qo, l.length, qc, ?_, ?_, ?_, hb⟩
    · simp [qlN, epN, nxN, ho]
    · simp [qlN, ho]
    · simp only [qlN, ho]; exact hown
/-- a list of queues that bears its marks -/
def Marked (w : World) (qo : Option Addr) (n : Nat) : Prop := (n = 0 ∨ ∃ g, qo = some ⟨g, 0, none⟩) ∧ QRow w qo n (marksQ n)
theorem Marked.below {w w' : World} {qo : Option Addr} {n : Nat} (h : Marked w qo n) (hb : Below w.heap.size w w') : Marked w' qo n := ⟨h.1, h.2.below hb⟩
theorem own_lt {w : World} {B : Nat} {v : Value} {l : List Q} (h : QOwn B w v l) : ∀ k, v.ownBlock = some k → B ≤ k ∧ k < w.heap.size := fun k hk => World.ownsRow.lt h k hk
end Go.Proofs.YtcplnodfcchdhaaGreat

/-
  A new state owns its lists.
-/
namespace Go.Proofs.YtcplnodfcchdhaaGreat
open Go.RowKit
theorem new_has {B n c : Nat} {w : World} {qo : Option Addr} {l : List Q} (ep nx se : Int) (h : QOwn B w (.slice qo n c) l) (hn : n = l.length) : SHas B w (newX qo n c) (newSt l ep nx se) [] := by
  obtain ⟨ao, cap, e, hc, hh⟩ := QOwn.has h
  cases e
  exact ⟨hh, ⟨⟨rfl, .inl rfl⟩, .inl rfl⟩, KHas.nil _ _, ⟨⟨rfl, .inl rfl⟩, .inl rfl⟩, ⟨⟨rfl, .inl rfl⟩, .inl rfl⟩, ⟨hc, Nat.le_refl _, Nat.le_refl _, Nat.le_refl _⟩, own1_of h, .inl rfl, .inl rfl, .inl rfl, fun v hv => absurd hv (by simp)⟩
end Go.Proofs.YtcplnodfcchdhaaGreat

/-
  What those containers have together that count, by the program: used, UsedOn; walks over the dump.
-/
namespace Go.Proofs.YtcplnodfcchdhaaGreat
open Go.RowKit
set_option linter.unusedVariables false
abbrev conobj (m : Con) : Obj := .cells #[.int .i64 m.id, .int .i64 m.app, .string (bs m.node), .int .i64 m.mem, .int .i64 m.cpu] 72
theorem used_len {p : Con → Bool} (l : List Con) : (usedL p l).length ≤ l.length := by simp [usedL]; exact List.length_filter_le _ _

set_option maxRecDepth 100000 in
set_option maxHeartbeats 4000000 in
theorem used_any (g : Nat) (lb : Array Value) (eg : ∀ args w, (callFunc g args).run Tryz.prog w = .ok (.enter g args) w) (p : Con → Bool) (x : Sls) (s : St) (w : World) (h : ConRow w x.ca x.cl s.cs) (hl : x.cl ≤ 1048576)
    (hp : ∀ wx q, Below w.heap.size w wx → Calls Tryz.prog g (#[conv q] ++ lb) wx fun e w' => e = .returned (.bool (p q)) ∧ Below wx.heap.size wx w') :
    Calls Tryz.prog 37 #[sv x s, .func (.func g) #[] lb] w fun e w' => e = .returned (rv (sumR (usedL p s.cs)).1 (sumR (usedL p s.cs)).2.1) ∧ Below w.heap.size w w' := by
  obtain ⟨i0, hi, hz0, hz1, hz2⟩ := info_parts Tryz.infoR
  obtain ⟨qa, ql, qc, aa, al, ac, ma, ml, mc, ca, cl, cc⟩ := x
  obtain ⟨qs, clock, epoch, next, serial, apps, ms, cs⟩ := s
  simp only at h hl ⊢
  have HR := hide h
  have HL := hide h.1
  have HP := hide hp
  obtain ⟨c, hc⟩ : ∃ c : Array Value, #[.slice qa ql qc, .int .i64 clock, .int .i64 epoch, .int .i64 next, .int .i64 serial, .slice aa al ac, .slice ma ml mc, .slice ca cl cc] = c := ⟨_, rfl⟩
  have HC := hide hc
  have HB0 := hide (capW_below w c)
  have V0 := hide (capW_var w c)
  have HW := hide (capW_size w c)
  clear h hc hp
  obtain ⟨⟨sx, sy, so⟩, hs⟩ : ∃ s, sumR (usedL p cs) = s := ⟨_, rfl⟩
  have HS := hide hs
  rw [hs]
  clear hs
  go_enter Tryz.func37, Tryz.ntmps37
  go_wp2
  go_loopw [5, 13] (fun v i wr => ∃ (k : Nat), k ≤ cl ∧ i = .int .i64 k ∧ Hid (ROwn (capW w c).heap.size wr v (usedL p (cs.take k))) ∧ Hid (Below (capW w c).heap.size (capW w c) wr)) (fun _ i _ => cl - (intOf i).toNat)
  case atStart =>
    obtain rfl := unhide HC
    exact ⟨0, Nat.zero_le _, rfl, hide (by simpa [usedL] using rown_nil _ _), hide (Below.refl _ _)⟩
  case round =>
    obtain ⟨k, hk, rfl, HO, HB⟩ := hrel
    by_cases hlt : k < cl
    · obtain ⟨b, off, rfl, hq⟩ := (((unhide HR).below (unhide HB0)).below (unhide HB)).at hlt
      have hkl : k < cs.length := by have := unhide HL; omega
      have hst := usedL_step (p := p) hkl
      obtain ⟨c0, c1, c2, c3, c4⟩ := hq hkl
      obtain ⟨m, hs⟩ : ∃ q, cs[k] = q := ⟨_, rfl⟩
      rw [hs] at c0 c1 c2 c3 c4 hst
      have hal : (usedL p (cs.take k)).length ≤ 1048576 := by have := used_len (p := p) (cs.take k); simp at this; omega
      obtain ⟨acc, hacc⟩ : ∃ a, usedL p (cs.take k) = a := ⟨_, rfl⟩
      rw [hacc] at hst hal HO
      obtain ⟨id, ap, nd, me, cp⟩ := m
      simp only at c0 c1 c2 c3 c4 hst
      have HBA := hide (below_al (Below.refl _ wr) (conobj ⟨id, ap, nd, me, cp⟩))
      have HCL := hide (unhide HP (wr.alloc (conobj ⟨id, ap, nd, me, cp⟩)) ⟨id, ap, nd, me, cp⟩ (below_on (below_on (unhide HB0) (unhide HB)) (unhide HBA)))
      have KB := hide (blk_new wr #[.int .i64 id, .int .i64 ap, .string (bs nd), .int .i64 me, .int .i64 cp] 72)
      clear hq hs hkl hacc
      cases hpq : p ⟨id, ap, nd, me, cp⟩ with
      | true =>
        rw [hpq] at HCL
        rw [hpq, if_pos rfl] at hst
        have HST := hide hst
        clear hpq hst
        go_wp2_with (first
          | (go_at_fn g; refine (unhide HCL).mono ?_; rintro e w1 ⟨rfl, hb⟩; have HB1 := hide (below_on (below_on (unhide HB) (unhide HBA)) hb); have HO1 := hide (((unhide HO).below (unhide HBA)).below hb); have b1 := (unhide KB).below hb; have q3 := b1.at 3; have q4 := b1.at 4; simp at q3 q4; have hs2 : (capW w c).heap.size ≤ w1.heap.size := (unhide HB1).size; have hown : w1.ownsRow (capW w c).heap.size 33 2 _ acc.length (rcells acc) := unhide HO1; clear b1 hb HCL c0 c1 c2 c3 c4 HO HB)
          | (at_builtin; refine wpList_append_own _ rfl _ _ 85 rfl (capW w c).heap.size 33 i0 (.agg #[.int .i64 0, .int .i64 0]) 2 16 Tryz.underlying85 hi hz0 hz1 hz2 rfl (by decide) _ _ _ rfl (hown.alloc _) ⟨w1.heap.size, 0, none⟩ 1 1 (rcell (me, cp)) rfl rfl ?c1 ?c2 ?c3 ?c4 ?c5 ?_))
        case c1 =>
          intro j x hj
          match j, hj with
          | 0, hj => simp at hj; subst hj; simp [Addr.add]
          | 1, hj => simp at hj; subst hj; simp [Addr.add]
          | _ + 2, hj => simp at hj
        case c2 => intro x hx; simp at hx; rcases hx with rfl | rfl <;> rfl
        case c3 => unfold maxLen; omega
        case c4 => omega
        case c5 => simp at hs2 ⊢; omega
        intro v' w3 hown' hgrow _
        have R := rown_step (q := (me, cp)) (unhide HB1) (unhide HO1) hown' hgrow hs2
        have HR3 := hide R
        clear hown' hgrow hown R q3 q4
        go_wp2
        go_roundw
        case rel => exact ⟨k + 1, by omega, by go_num, hide (by rw [unhide HST]; exact (unhide HR3).1), hide (unhide HR3).2⟩
        case measure => simp [intOf]; omega
      | false =>
        rw [hpq] at HCL
        rw [hpq, if_neg (by simp)] at hst
        have HST := hide hst
        clear hpq hst
        go_wp2_with (go_at_fn g; refine (unhide HCL).mono ?_; rintro e w1 ⟨rfl, hb⟩; have HB1 := hide (below_on (below_on (unhide HB) (unhide HBA)) hb); have HO1 := hide (((unhide HO).below (unhide HBA)).below hb); clear hb HCL c0 c1 c2 c3 c4 HO HB)
        go_roundw
        case rel => exact ⟨k + 1, by omega, by go_num, hide (by rw [unhide HST]; exact unhide HO1), HB1⟩
        case measure => simp [intOf]; omega
    · have htk : cs.take k = cs := List.take_of_length_le (by have := unhide HL; omega)
      rw [htk] at HO
      obtain ⟨ao, cp, rfl, hrow, hcp⟩ := (unhide HO).row
      have hlc : (usedL p cs).length ≤ 1048576 := by have := used_len (p := p) cs; have := unhide HL; omega
      have CT := hide (together_any ao _ cp (usedL p cs) wr hrow hlc)
      rw [unhide HS] at CT
      obtain ⟨n, hn⟩ : ∃ n, (usedL p cs).length = n := ⟨_, rfl⟩
      rw [hn] at CT ⊢
      clear hrow hn htk hcp hlc HO
      go_wp2_with fail
      refine (unhide CT).mono ?_
      rintro e w1 ⟨rfl, hb⟩
      have hsz : w.heap.size + 1 < (capW w c).heap.size := by have := unhide HW; omega
      have V1 : Var w1 33 (w.heap.size + 1) 0 0 := Var.below ((unhide HB).block _ hsz |>.trans (unhide V0)) hb
      have HB1 := hide (below_on (below_on (unhide HB0) (unhide HB)) hb)
      have V2 := V1.al (.cells #[.int .i64 sx, .int .i64 sy] 33)
      have t0 := V2.c0
      have t1 := V2.c1
      have f0 := V2.f 0
      have f1 := V2.f 1
      have VG := V2.set sx sy
      have k6 := VG.c0
      have k7 := VG.c1
      clear hb V1 V2 VG CT HB HB0
      go_wp2
      refine bodyPost_ret (v := rv sx sy) (by simp [results, Tryz.results37, go_sem, k6, k7]) rfl ⟨rfl, ?_⟩
      repeat (first | exact unhide HB1 | refine below_al ?_ _ | refine below_sc ?_ _ _ _ (by omega))
end Go.Proofs.YtcplnodfcchdhaaGreat

/-
  What is on a machine together, by the program: UsedOn; walks over the dump.
-/
namespace Go.Proofs.YtcplnodfcchdhaaGreat
open Go.RowKit
set_option linter.unusedVariables false
set_option maxRecDepth 100000 in
set_option maxHeartbeats 1000000 in
theorem onFn_any (B : Nat) (nm : List UInt8) (q : Con) (w : World) (hc : w.cell? ⟨B, 0, none⟩ = some (.string (bs nm))) :
    Calls Tryz.prog 38 #[conv q, .pointer (some ⟨B, 0, none⟩)] w fun e w' => e = .returned (.bool (decide (q.node = nm))) ∧ Below w.heap.size w w' := by
  have hlt := cell_lt hc
  have hc2 : (w.alloc (conobj q)).cell? ⟨B, 0, none⟩ = some (.string (bs nm)) := by rw [World.cell?_alloc_lt _ _ ⟨B, 0, none⟩ hlt]; exact hc
  have hbe := bs_eq q.node nm
  clear hc hlt
  go_enter Tryz.func38, Tryz.ntmps38
  go_wp2
  go_ret
  exact ⟨rfl, below_al (Below.refl _ _) _⟩

def onNode (nm : List UInt8) (q : Con) : Bool := decide (q.node = nm)
def usedOnV (s : St) (nm : List UInt8) : Int × Int := ((sumR (usedL (onNode nm) s.cs)).1, (sumR (usedL (onNode nm) s.cs)).2.1)
def onW (w : World) (c : Array Value) (nm : List UInt8) : World := ((w.alloc (.cells c 29)).alloc (.cells #[.string (bs nm)] 9)).alloc (.cells #[.int .i64 0, .int .i64 0] 33)
theorem onW_below (w : World) (c : Array Value) (nm : List UInt8) : Below w.heap.size w (onW w c nm) := below_al (below_al (below_al (Below.refl _ w) _) _) _
theorem onW_cell (w : World) (c : Array Value) (nm : List UInt8) : (onW w c nm).cell? ⟨w.heap.size + 1, 0, none⟩ = some (.string (bs nm)) := by
  have := ((blk_new (w.alloc (.cells c 29)) #[.string (bs nm)] 9).al (.cells #[.int .i64 0, .int .i64 0] 33)).at 0
  rw [al_size] at this
  exact this
theorem onW_var (w : World) (c : Array Value) (nm : List UInt8) : Var (onW w c nm) 33 (w.heap.size + 1 + 1) 0 0 := by
  have := var_new ((w.alloc (.cells c 29)).alloc (.cells #[.string (bs nm)] 9)) 33 0 0
  rwa [al_size, al_size] at this

set_option maxRecDepth 100000 in
set_option maxHeartbeats 2000000 in
theorem implUsedOn_any (x : Sls) (s : St) (nm : List UInt8) (w : World) (h : ConRow w x.ca x.cl s.cs) (hl : x.cl ≤ 1048576) :
    Calls Tryz.prog 7 #[sv x s, .string (bs nm)] w fun e w' => e = .returned (rv (usedOnV s nm).1 (usedOnV s nm).2) ∧ Below w.heap.size w w' := by
  have hmf : ∀ (fn : Fn) (first cap : Array Value) (w : World), (Instr.makeFunc fn first cap).run Tryz.prog w = .ok (.func fn first cap) w := fun _ _ _ _ => rfl
  obtain ⟨⟨sx, sy⟩, hs⟩ : ∃ s', usedOnV s nm = s' := ⟨_, rfl⟩
  have h1 := congrArg Prod.fst hs
  have h2 := congrArg Prod.snd hs
  simp only [usedOnV] at h1 h2
  have CU := hide (by
    have := used_any 38 #[.pointer (some ⟨w.heap.size + 1, 0, none⟩)] (enters_of Tryz.func38 (by kernel_rfl) rfl) (onNode nm) x s (onW w (svc x s) nm) (h.below (onW_below w _ nm)) hl
      (fun wy q hy => onFn_any (w.heap.size + 1) nm q wy ((hy.cell (p := ⟨w.heap.size + 1, 0, none⟩) (cell_lt (onW_cell w _ nm))).trans (onW_cell w _ nm)))
    rw [h1, h2] at this
    exact this)
  rw [hs]
  clear hs h1 h2 h
  obtain ⟨qa, ql, qc, aa, al, ac, ma, ml, mc, ca, cl, cc⟩ := x
  obtain ⟨qs, clock, epoch, next, serial, apps, ms, cs⟩ := s
  go_enter Tryz.func7, Tryz.ntmps7
  go_wp2_with fail
  refine (unhide CU).mono ?_
  rintro e w1 ⟨rfl, hb⟩
  have V1 := (onW_var w _ nm).below hb
  have HB1 := hide (below_on (onW_below w _ nm) hb)
  have t0 := V1.c0
  have t1 := V1.c1
  have f0 := V1.f 0
  have f1 := V1.f 1
  have VG := V1.set sx sy
  have k6 := VG.c0
  have k7 := VG.c1
  clear hb V1 VG CU
  go_wp2
  refine bodyPost_ret (v := rv sx sy) (by simp [results, Tryz.results7, go_sem, k6, k7]) rfl ⟨rfl, ?_⟩
  repeat (first | exact unhide HB1 | refine below_al ?_ _ | refine below_sc ?_ _ _ _ (by omega))
end Go.Proofs.YtcplnodfcchdhaaGreat

/-
  What is free on a machine: in plain words; where the model looks for a machine; a walk over the dump.
-/
namespace Go.Proofs.YtcplnodfcchdhaaGreat
open Go.RowKit Go.Maps
set_option linter.unusedVariables false
def lessV (a b c d : Int) : Int × Int := if bothOk (-1) a b c d then (a + -1 * c, b + -1 * d) else (0, 0)
theorem less_both (a b c d : Int) : bothV (-1) a b c d = rv (lessV a b c d).1 (lessV a b c d).2 := by
  cases h : bothOk (-1) a b c d
  · rw [both_no h, lessV, h]; rfl
  · rw [both_yes h, lessV, h]; rfl
def freeOnV (s : St) (nm : List UInt8) : Int × Int := match findM nm s.ms with
  | none => (0, 0)
  | some m => lessV m.mem m.cpu (usedOnV s nm).1 (usedOnV s nm).2
end Go.Proofs.YtcplnodfcchdhaaGreat

/-
  What is on a machine together, by the model: UsedOn; walks over the dump.
-/
namespace Go.Proofs.YtcplnodfcchdhaaGreat
open Go.RowKit
set_option linter.unusedVariables false
set_option maxRecDepth 100000 in
set_option maxHeartbeats 2000000 in
theorem specUsedOn_any (x : Sls) (s : St) (nd : List UInt8) (w : World) (h : ConRow w x.ca x.cl s.cs) (hl : x.cl ≤ 1048576) :
    Calls Tryz.prog 17 #[sv x s, .string (bs nd)] w fun e w' => e = .returned (rv (sumR (usedL (fun q => decide (q.node = nd)) s.cs)).1 (sumR (usedL (fun q => decide (q.node = nd)) s.cs)).2.1) ∧ Below w.heap.size w w' := by
  have hlc : (usedL (fun q => decide (q.node = nd)) s.cs).length ≤ 1048576 := by have := h.1; have : (usedL (fun q : Con => decide (q.node = nd)) s.cs).length ≤ s.cs.length := (by simp only [usedL, List.length_map]; exact List.length_filter_le _ _); omega
  have HR := hide h
  clear h
  obtain ⟨⟨sx, sy, so⟩, hs⟩ : ∃ y, sumR (usedL (fun q => decide (q.node = nd)) s.cs) = y := ⟨_, rfl⟩
  have CC := hide (fun wx (hb : Below w.heap.size w wx) => l04On_any x s nd wx ((unhide HR).below hb) hl)
  have CS := hide (fun ao cap wx (h : RRow wx ao (usedL (fun q => decide (q.node = nd)) s.cs).length (usedL (fun q => decide (q.node = nd)) s.cs)) => by have := l04Sum_any ao _ cap (usedL (fun q => decide (q.node = nd)) s.cs) wx h hlc; rw [hs] at this; exact this)
  rw [hs]
  clear hs
  obtain ⟨qa, ql, qc, aa, al, ac, ma, ml, mc, ca, cl, cc⟩ := x
  obtain ⟨qs, clock, epoch, next, serial, apps, ms, cs⟩ := s
  simp only at CC CS hlc
  go_enter Tryz.func17, Tryz.ntmps17
  go_wp2_with fail
  refine (unhide CC _ (capW_below w _)).mono ?_
  rintro e w1 ⟨v, rfl, ho, hb⟩
  obtain ⟨ao, cp, rfl, hrow, _⟩ := ho.row
  have V1 := (capW_var w _).below hb
  have HV1 := hide V1
  have HB1 := hide (below_on (capW_below w _) hb)
  have HROW := hide hrow
  obtain ⟨n, hn⟩ : ∃ n, (usedL (fun q => decide (q.node = nd)) cs).length = n := ⟨_, rfl⟩
  rw [hn] at CS HROW ⊢
  clear hb V1 CC ho hrow hn hlc
  go_wp2_with fail
  refine (unhide CS _ _ _ (unhide HROW)).mono ?_
  rintro e w2 ⟨rfl, hb⟩
  have V1 := (unhide HV1).below hb
  have HB2 := hide (below_on (unhide HB1) hb)
  have V2 := V1.al (.cells #[.int .i64 sx, .int .i64 sy] 33)
  have t0 := V2.c0
  have t1 := V2.c1
  have f0 := V2.f 0
  have f1 := V2.f 1
  have VG := V2.set sx sy
  have k6 := VG.c0
  have k7 := VG.c1
  clear hb V1 V2 VG CS HV1 HB1 HROW
  go_wp2
  refine bodyPost_ret (v := rv sx sy) (by simp [results, Tryz.results17, go_sem, k6, k7]) rfl ⟨rfl, ?_⟩
  repeat (first | exact unhide HB2 | refine below_al ?_ _ | refine below_sc ?_ _ _ _ (by omega))
end Go.Proofs.YtcplnodfcchdhaaGreat

/-
  What is on a machine together: the two sides in one form.
-/
namespace Go.Proofs.YtcplnodfcchdhaaGreat
open Go.RowKit
theorem SRow.cl {w : World} {x : Sls} {s : St} (h : SRow w x s) (hf : FitSt s) : x.cl ≤ 1048576 := by have := h.len.2.2.2; have := hf.2.2.2.1; omega
theorem specUsedOn_v (x : Sls) (s : St) (nd : List UInt8) (w : World) (h : ConRow w x.ca x.cl s.cs) (hl : x.cl ≤ 1048576) :
    Calls Tryz.prog 17 #[sv x s, .string (bs nd)] w fun e w' => e = .returned (rv (usedOnV s nd).1 (usedOnV s nd).2) ∧ Below w.heap.size w w' := specUsedOn_any x s nd w h hl
end Go.Proofs.YtcplnodfcchdhaaGreat
