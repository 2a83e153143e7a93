/-
  Several texts of this claim in one: HasI, FindAp, SubI (pack.py put them together); each says in its own remark what is proved.
-/
import Derived.Test.YtcplnodfcchdhaaGreatPackC
import Derived.Test.YtcplnodfcchdhaaGreatPackL
import Derived.Test.YtcplnodfcchdhaaGreatPackK
import Derived.Test.YtcplnodfcchdhaaGreatPackR
/-
  Whether the map of applications has a container's: what the program's ofApp and has answer; walks over the dump.
-/
namespace Go.Proofs.YtcplnodfcchdhaaGreat
open Go.RowKit Go.Maps
set_option linter.unusedVariables false
def hasB (hs : List AV) (keep : AV → Bool) (q : Con) : Bool := optB (findA q.app hs) keep
set_option maxHeartbeats 1000000 in
theorem ofApp_any (q : Con) (w : World) :
    Calls Tryz.prog 97 #[conv q] w fun e w' => e = .returned (.agg #[.string (bs []), .int .i64 q.app]) ∧ Below w.heap.size w w' := by
  obtain ⟨id, ap, nd, me, cp⟩ := q
  go_enter Tryz.func97, Tryz.ntmps97
  go_wp2
  refine bodyPost_ret (v := .agg #[.string (bs []), .int .i64 ap]) (by simp [results, Tryz.results97, go_sem]; rfl) rfl ⟨rfl, ?_⟩
  repeat (first | exact Below.refl _ _ | refine below_al ?_ _ | refine Below.drew ?_ | refine below_sc ?_ _ _ _ (by omega))
theorem ownsMap_below {w w' : World} {k : TypeId} {R : Value → Option (DataW Unit × List MemPlace)} {b n : Nat} {D : DataW Unit} (h : w.ownsMap Tryz.prog k R b n D) (hb : Below w.heap.size w w') : w'.ownsMap Tryz.prog k R b n D := h.kept (grownBy_below (grownBy_refl w none) hb) (by simp)

set_option maxRecDepth 100000 in
set_option maxHeartbeats 2000000 in
theorem has_any (bm n : Nat) (D : DataW Unit) (hs : List AV) (keep : AV → Bool) (q : Con) (w : World) (hown : w.ownsMap Tryz.prog 69 appElem bm n D) (hk : KnownA hs (fun _ v => keep v) D) (hwf : (Lit.int .i64 q.app).wf = true) :
    Calls Tryz.prog 53 #[.map (some bm), conv q] w fun e w' => e = .returned (.bool (hasB hs keep q)) ∧ Below w.heap.size w w' := by
  obtain ⟨kl, hkey⟩ := keyKey (nm := []) (k := q.app) (by decide) hwf
  have HL := hide (fun wx (hb : Below w.heap.size w wx) => lookA (ownsMap_below hown hb) hk hkey)
  obtain ⟨o, ho⟩ : ∃ o, hasB hs keep q = o := ⟨_, rfl⟩
  have HO := hide (show optB (findA q.app hs) keep = o from ho)
  rw [ho]
  clear ho hkey hown hk hwf
  have CO := hide (fun wx => ofApp_any q wx)
  obtain ⟨id, ap, nd, me, cp⟩ := q
  simp only at HL HO
  have HB0 := hide (below_al (Below.refl _ w) (.cells #[.int .i64 id, .int .i64 ap, .string (bs nd), .int .i64 me, .int .i64 cp] 72))
  go_enter Tryz.func53, Tryz.ntmps53
  go_wp2_with fail
  refine (unhide CO _).mono ?_
  rintro e w1 ⟨rfl, hb⟩
  have HB1 := hide (below_on (unhide HB0) hb)
  obtain ⟨v, hlk, _, _⟩ := unhide HL _ (unhide HB1)
  rw [show optB (findA ap hs) (fun v => keep v) = o from unhide HO] at hlk
  obtain ⟨v1, v2, v3, v4, v5⟩ := v
  clear hb HB0 HL HO
  go_wp2
  go_ret
  refine ⟨rfl, ?_⟩
  repeat (first | exact unhide HB1 | refine below_al ?_ _ | refine Below.drew ?_ | refine below_sc ?_ _ _ _ (by omega))
end Go.Proofs.YtcplnodfcchdhaaGreat

/-
  Where an application of a number is, in plain words; where the model looks for an application; a walk over the dump.
-/
namespace Go.Proofs.YtcplnodfcchdhaaGreat
open Go.RowKit Go.Maps
set_option linter.unusedVariables false
def findAp (id : Int) (l : List Appl) : Option Appl := l.find? (fun a => decide (a.id = id))
/-- the place of the first application of that number, from place k on; -1 where there is none -/
def apFrom (id : Int) : List Appl → Nat → Int
  | [], _ => -1
  | q :: t, k => if q.id = id then k else apFrom id t (k + 1)
def apAt (l : List Appl) (id : Int) : Int := apFrom id l 0
theorem apFrom_step {id : Int} {l : List Appl} {k : Nat} (h : k < l.length) : apFrom id (l.drop k) k = if l[k].id = id then (k : Int) else apFrom id (l.drop (k + 1)) (k + 1) := by
  rw [List.drop_eq_getElem_cons h, apFrom]
theorem apFrom_end {id : Int} {l : List Appl} {k : Nat} (h : l.length ≤ k) : apFrom id (l.drop k) k = -1 := by
  rw [List.drop_of_length_le h]; rfl
theorem apFrom_find (id : Int) : ∀ (l : List Appl) (k : Nat), (findAp id l = none ∧ apFrom id l k = -1) ∨ (∃ (j : Nat) (h : j < l.length), findAp id l = some l[j] ∧ apFrom id l k = ((k + j : Nat) : Int))
  | [], k => .inl ⟨rfl, rfl⟩
  | q :: t, k => by
    by_cases h : q.id = id
    · right
      exact ⟨0, by simp, by simp [findAp, h], by rw [apFrom, if_pos h]; simp⟩
    · have hf : findAp id (q :: t) = findAp id t := by simp [findAp, h]
      rw [hf, apFrom, if_neg h]
      rcases apFrom_find id t (k + 1) with ⟨a, b⟩ | ⟨j, hj, a, b⟩
      · exact .inl ⟨a, b⟩
      · exact .inr ⟨j + 1, by simpa using hj, by simpa using a, by rw [b]; congr 1; omega⟩
theorem apAt_find (id : Int) (l : List Appl) : (findAp id l = none ∧ apAt l id = -1) ∨ (∃ (j : Nat) (h : j < l.length), findAp id l = some l[j] ∧ apAt l id = (j : Int)) := by
  rcases apFrom_find id l 0 with h | ⟨j, h, a, b⟩
  · exact .inl h
  · exact .inr ⟨j, h, a, by rw [apAt, b]; congr 1; omega⟩
theorem heads_find {hs : List AV} {l : List Appl} {id : Int} : hs.length = l.length → (∀ i (h : i < hs.length) (h' : i < l.length), hs[i].id = l[i].id ∧ hs[i].queue = l[i].queue) → (findA id hs).map AV.queue = (findAp id l).map Appl.queue := by
  induction hs generalizing l with
  | nil =>
    intro h _
    have : l = [] := List.length_eq_zero_iff.1 h.symm
    subst this
    rfl
  | cons v t ih =>
    intro h1 h2
    cases l with
    | nil => simp at h1
    | cons a r =>
      have h0 := h2 0 (by simp) (by simp)
      simp only [List.getElem_cons_zero] at h0
      by_cases e : a.id = id
      · have e' : v.id = id := h0.1.trans e
        simp [findA, findAp, e, e', h0.2]
      · have e' : ¬ v.id = id := fun x => e (h0.1.symm.trans x)
        have := ih (l := r) (by simpa using h1) (fun i a b => by have := h2 (i + 1) (by simpa using a) (by simpa using b); simpa using this)
        simpa [findA, findAp, e, e'] using this

set_option maxRecDepth 100000 in
set_option maxHeartbeats 1000000 in
theorem l04App_any (x : Sls) (s : St) (id : Int) (w : World) (h : ApplRow w x.aa x.al s.apps) (hl : x.al ≤ 1048576) :
    Calls Tryz.prog 44 #[sv x s, .int .i64 id] w fun e w' => e = .returned (.int .i64 (apAt s.apps id)) ∧ Below w.heap.size w w' := by
  have HR := hide h
  have HL := hide h.1
  have HB0 := hide (below_al (Below.refl _ w) (.cells (svc x s) 29))
  have P0 := hide (blk_new w (svc x s) 29)
  clear h
  obtain ⟨qa, ql, qc, aa, al, ac, ma, ml, mc, ca, cl, cc⟩ := x
  obtain ⟨qs, clock, epoch, next, serial, apps, ms, cs⟩ := s
  simp only at hl HR HL ⊢
  go_enter Tryz.func44, Tryz.ntmps44
  go_wp2
  go_loopw [5] (fun i wr => ∃ (k : Nat), k ≤ al ∧ i = .int .i64 k ∧ Hid (apAt apps id = apFrom id (apps.drop k) k) ∧ Hid (Blk wr w.heap.size (svc ⟨qa, ql, qc, aa, al, ac, ma, ml, mc, ca, cl, cc⟩ ⟨qs, clock, epoch, next, serial, apps, ms, cs⟩) 29) ∧ Hid (Below w.heap.size w wr)) (fun i _ => al - (intOf i).toNat)
  case atStart => exact ⟨0, Nat.zero_le _, rfl, hide (by simp [apAt]), P0, HB0⟩
  case round =>
    obtain ⟨k, hk, rfl, HQ, HP, HB⟩ := hrel
    have p5 := (unhide HP).at 5
    simp at p5
    by_cases hlt : k < al
    · obtain ⟨b, off, rfl, hq⟩ := ((unhide HR).below (unhide HB)).at hlt
      have hkl : k < apps.length := by have := unhide HL; omega
      have hst := hide (apFrom_step (id := id) hkl)
      obtain ⟨xo, xl, xc, hxx⟩ := hq hkl
      have c0 := hxx.1
      clear hq hxx
      obtain ⟨s, hs⟩ : ∃ s, apps[k].id = s := ⟨_, rfl⟩
      rw [hs] at c0 hst
      clear hs hkl
      by_cases he : s = id
      · have HE := hide he
        have hbe : (s == id) = true := by simp [he]
        clear he
        go_wp2
        go_ret
        exact ⟨ret_int (by rw [unhide HQ, unhide hst, if_pos (unhide HE)]), unhide HB⟩
      · have HE := hide he
        have hbe : (s == id) = false := by simp [he]
        clear he
        go_wp2
        go_roundw
        case rel => exact ⟨k + 1, by omega, by go_num, hide (by rw [unhide HQ, unhide hst, if_neg (unhide HE)]), HP, HB⟩
        case measure => simp [intOf]; omega
    · go_wp2
      go_ret
      exact ⟨ret_int (by rw [unhide HQ, apFrom_end (by have := unhide HL; omega)]), unhide HB⟩
end Go.Proofs.YtcplnodfcchdhaaGreat

/-
  What the program's Sub answers; a walk over the dump.
-/
namespace Go.Proofs.YtcplnodfcchdhaaGreat
open Go.RowKit
set_option linter.unusedVariables false
set_option maxRecDepth 100000 in
set_option maxHeartbeats 1000000 in
theorem implSub_any (a b c d : Int) (w : World) :
    Calls Tryz.prog 36 #[rv a b, rv c d] w fun e w' => e = .returned (.tuple #[bothV (-1) a b c d, .bool (bothOk (-1) a b c d)]) ∧ Below w.heap.size w w' := by
  have V1 := ((var_new w 33 a b).al (.cells #[.int .i64 c, .int .i64 d] 33)).al (.cells #[.int .i64 0, .int .i64 0] 33)
  have V2 := (var_new2 w 33 33 a b c d).al (.cells #[.int .i64 0, .int .i64 0] 33)
  have V3 := var_new2 (w.alloc (.cells #[.int .i64 a, .int .i64 b] 33)) 33 33 c d 0 0
  have B3 := below_al (below_al (below_al (Below.refl _ w) (.cells #[.int .i64 a, .int .i64 b] 33)) (.cells #[.int .i64 c, .int .i64 d] 33)) (.cells #[.int .i64 0, .int .i64 0] 33)
  simp at V3
  have HV1 := hide V1
  have HV2 := hide V2
  have HV3 := hide V3
  have HB3 := hide B3
  have hc := hide (pairOk_any a b c d)
  clear V1 V2 V3 B3
  cases h0 : resOk a b && resOk c d
  · have hb : bothOk (-1) a b c d = false := by rw [bothOk, h0]; rfl
    rw [both_no hb, hb]
    go_enter Tryz.func36, Tryz.ntmps36
    go_wp2_with fail
    refine (unhide hc _).mono ?_
    rw [h0]
    rintro e w1 ⟨rfl, hb⟩
    have V3 := (unhide HV3).below hb
    have k2 := V3.f 0
    have k3 := V3.f 1
    have k0 := V3.c0
    have k1 := V3.c1
    have k4 := V3.s0 (.int .i64 0)
    have k5 := V3.s1 (.int .i64 0) (.int .i64 0)
    have HB := hide (below_on (unhide HB3) hb)
    clear hb HV1 HV2 HV3 HB3 V3 hc
    go_wp2
    refine bodyPost_ret (v := .tuple #[rv 0 0, .bool false]) (by simp [results, Tryz.results36, go_sem, k4, k5]) rfl ⟨rfl, ?_⟩
    repeat (first | exact unhide HB | refine below_al ?_ _ | refine Below.drew ?_ | refine below_sc ?_ _ _ _ (by omega))
  · have h0' := h0
    simp only [Bool.and_eq_true] at h0'
    obtain ⟨q1, q2, q3, q4⟩ := resOk_bd h0'.1
    obtain ⟨q5, q6, q7, q8⟩ := resOk_bd h0'.2
    obtain ⟨x, hx⟩ : ∃ x, a - c = x := ⟨_, rfl⟩
    obtain ⟨y, hy⟩ : ∃ y, b - d = y := ⟨_, rfl⟩
    have m3 : IntKind.i64.wrap (a - c) = x := by rw [IntKind.wrap_i64]; omega
    have m4 : IntKind.i64.wrap (b - d) = y := by rw [IntKind.wrap_i64]; omega
    have e1 : bothOk (-1) a b c d = resOk x y := by rw [bothOk, h0, show a + (-1) * c = x by omega, show b + (-1) * d = y by omega]; rfl
    have e2 : bothV (-1) a b c d = orV x y := by rw [bothV, orV, e1, show a + (-1) * c = x by omega, show b + (-1) * d = y by omega]
    obtain ⟨u, v, hv⟩ : ∃ u v, orV x y = rv u v := by unfold orV; split <;> exact ⟨_, _, rfl⟩
    obtain ⟨o, ho⟩ : ∃ o, resOk x y = o := ⟨_, rfl⟩
    have ho2 : ∀ wx, Calls Tryz.prog 77 #[rv x y] wx fun e w' => e = .returned (.tuple #[rv u v, .bool o]) ∧ Below wx.heap.size wx w' := fun wx => by have := or_any x y wx; rw [hv, ho] at this; exact this
    rw [e1, e2, hv, ho]
    have HO := hide ho2
    clear e1 e2 hv ho ho2 h0' q1 q2 q3 q4 q5 q6 q7 q8 hx hy
    go_enter Tryz.func36, Tryz.ntmps36
    go_wp2_with fail
    refine (unhide hc _).mono ?_
    rw [h0]
    rintro e w1 ⟨rfl, hb⟩
    have V1 := (unhide HV1).below hb
    have V2 := (unhide HV2).below hb
    have V3 := hide ((unhide HV3).below hb)
    have a1 := V1.c0
    have a2 := V1.c1
    have a3 := V2.c0
    have a4 := V2.c1
    have HB := hide (below_on (unhide HB3) hb)
    clear hb HV1 HV2 HV3 HB3 V1 V2 hc
    go_wp2_with fail
    refine (unhide HO _).mono ?_
    rintro e w2 ⟨rfl, hb⟩
    have V4 := (unhide V3).below hb
    have k0 := V4.c0
    have k1 := V4.c1
    have k2 := V4.f 0
    have k3 := V4.f 1
    have k4 := V4.s0 (.int .i64 u)
    have k5 := V4.s1 (.int .i64 u) (.int .i64 v)
    have HB2 := hide (below_on (unhide HB) hb)
    clear hb V4 V3 HB HO a1 a2 a3 a4
    go_wp2
    refine bodyPost_ret (v := .tuple #[rv u v, .bool o]) (by simp [results, Tryz.results36, go_sem, k4, k5]) rfl ⟨rfl, ?_⟩
    repeat (first | exact unhide HB2 | refine below_al ?_ _ | refine Below.drew ?_ | refine below_sc ?_ _ _ _ (by omega))
end Go.Proofs.YtcplnodfcchdhaaGreat
