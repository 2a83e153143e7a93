/-
  Several texts of this claim in one: SumI4, CapI, CapsI, AddS, SumS4, CapS, CapsS, TotalB, ShareS, OfM, WithM, WithinS, QueuesOkS, LeafS, OverM (pack.py put them together); each says in its own remark what is proved.
-/
import Derived.Test.YtfbphoppgmganaaGreatPackE
import Derived.Deep.RegionHeld3
import Derived.Deep.CutRange
import Derived.Test.YtfbphoppgmganaaGreatStAll
import Derived.Test.YtfbphoppgmganaaGreatPackA
import Derived.Deep.RegionWith
/-
  What amounts are together, by the program; a walk over the dump.
-/
namespace Go.Proofs.YtfbphoppgmganaaGreat
open Go.RowKit
set_option linter.unusedVariables false

set_option maxRecDepth 100000 in
set_option maxHeartbeats 2000000 in
theorem together_any (ao : Option Addr) (len cap : Nat) (l : List (Int × Int)) (w : World) (h : RRow w ao len l) (hl : len ≤ 1048576) :
    Calls Tryz.prog 267 #[.slice ao len cap] w fun e w' => e = .returned (.tuple #[rv (sumR l).1 (sumR l).2.1, .bool (sumR l).2.2]) ∧ Below w.heap.size w w' := by
  have HR := hide h
  have HL := hide h.1
  obtain ⟨⟨sx, sy, so⟩, hs⟩ : ∃ s, sumR l = s := ⟨_, rfl⟩
  have HS := hide (show sumFrom l 0 0 = (sx, sy, so) from hs)
  rw [hs]
  clear h hs
  go_enter Tryz.func267, Tryz.ntmps267
  go_wp2
  go_loopw [12] (fun i wr => ∃ (k : Nat) (x y : Int), k ≤ len ∧ i = .int .i64 k ∧ Hid (sumFrom (l.drop k) x y = (sx, sy, so)) ∧ Hid (Var wr 30 w.heap.size 0 0) ∧ Hid (Var wr 30 (w.heap.size + 1) x y) ∧ Hid (Below w.heap.size w wr)) (fun i _ => len - (intOf i).toNat)
  case atStart => exact ⟨0, 0, 0, Nat.zero_le _, rfl, hide (by simpa using unhide HS), hide ((var_new w _ _ _).al _), hide (var_new2 w _ _ 0 0 0 0), hide (below_al (below_al (Below.refl _ _) _) _)⟩
  case round =>
    obtain ⟨k, x, y, hk, rfl, HQ, HV0, HV1, HB⟩ := hrel
    by_cases hlt : k < len
    · obtain ⟨b, off, rfl, hq⟩ := ((unhide HR).below (unhide HB)).at hlt
      have hkl : k < l.length := by have := unhide HL; omega
      have hst := sumFrom_step hkl x y
      obtain ⟨c0, c1⟩ := hq hkl
      obtain ⟨⟨a, d⟩, hs⟩ : ∃ q, l[k] = q := ⟨_, rfl⟩
      rw [hs] at c0 c1 hst
      simp only at c0 c1 hst
      have HST := hide hst
      have s0 := (unhide HV1).c0
      have s1 := (unhide HV1).c1
      have hsz := (unhide HV1).lt
      have hl2 := World.cell?_alloc_lt wr (.cells #[.int .i64 a, .int .i64 d] 30) ⟨w.heap.size + 1, 0, none⟩ hsz
      have hl3 := World.cell?_alloc_lt wr (.cells #[.int .i64 a, .int .i64 d] 30) ⟨w.heap.size + 1, 1, none⟩ hsz
      rw [s0] at hl2
      rw [s1] at hl3
      clear hq hs hkl hst
      have CA := hide (fun wx => implAdd_any x y a d wx)
      have HA := hide (below_al (Below.refl _ wr) (.cells #[.int .i64 a, .int .i64 d] 30))
      cases ho : bothOk 1 x y a d with
      | true =>
        rw [both_yes ho, ho] at CA
        rw [if_pos ho] at HST
        clear ho
        go_wp2_with fail
        refine (unhide CA _).mono ?_
        rintro e w1 ⟨rfl, hb⟩
        have W0 := hide (((unhide HV0).below (unhide HA)).below hb)
        have W1 := hide (((unhide HV1).below (unhide HA)).below hb)
        have HB1 := hide (below_on (below_on (unhide HB) (unhide HA)) hb)
        have hsz1 := (unhide W1).lt
        have t0 := (unhide W1).c0
        have t1 := (unhide W1).c1
        have f0 := (unhide W1).f 0
        have f1 := (unhide W1).f 1
        have g0 := World.cell?_alloc_lt w1 (.cells #[.int .i64 (x + 1 * a), .int .i64 (y + 1 * d)] 30) ⟨w.heap.size + 1, 0, none⟩ hsz1
        have g1 := World.cell?_alloc_lt w1 (.cells #[.int .i64 (x + 1 * a), .int .i64 (y + 1 * d)] 30) ⟨w.heap.size + 1, 1, none⟩ hsz1
        rw [t0] at g0
        rw [t1] at g1
        clear hb CA HA c0 c1 s0 s1 hl2 hl3 HV0 HV1 HB
        obtain ⟨x', hx'⟩ : ∃ x', x + 1 * a = x' := ⟨_, rfl⟩
        obtain ⟨y', hy'⟩ : ∃ y', y + 1 * d = y' := ⟨_, rfl⟩
        rw [hx', hy'] at HST g0 g1
        rw [hx', hy']
        clear hx' hy'
        have h2 := (unhide W1).al (.cells #[.int .i64 x', .int .i64 y'] 30)
        have ff0 := h2.f 0
        have ff1 := h2.f 1
        have W2 := hide h2
        clear h2
        go_wp2
        go_roundw
        case rel => exact ⟨k + 1, x', y', by omega, by go_num, hide (by rw [← unhide HST]; exact unhide HQ), hide ((((unhide W0).other _ _ _ (show w.heap.size ≠ w.heap.size + 1 by omega)).other _ _ _ (show w.heap.size ≠ w.heap.size + 1 by omega)).al _), hide (((unhide W1).set _ _).al _), hide (below_al (below_sc (below_sc (unhide HB1) _ _ _ (show w.heap.size ≤ w.heap.size + 1 by omega)) _ _ _ (show w.heap.size ≤ w.heap.size + 1 by omega)) _)⟩
        case measure => simp [intOf]; omega
      | false =>
        rw [both_no ho, ho] at CA
        rw [if_neg (by rw [ho]; simp)] at HST
        have hres := (unhide HST).symm.trans (unhide HQ)
        simp only [Prod.mk.injEq] at hres
        obtain ⟨rfl, rfl, rfl⟩ := hres
        clear ho HST HS
        go_wp2_with fail
        refine (unhide CA _).mono ?_
        rintro e w1 ⟨rfl, hb⟩
        have W0 := hide ((((unhide HV0).below (unhide HA)).below hb).al (.cells #[.int .i64 0, .int .i64 0] 30))
        have HB1 := hide (below_al (below_on (below_on (unhide HB) (unhide HA)) hb) (.cells #[.int .i64 0, .int .i64 0] 30))
        clear hb CA HA c0 c1 s0 s1 hl2 hl3 HV0 HV1 HB
        have t0 := (unhide W0).c0
        have t1 := (unhide W0).c1
        have f0 := (unhide W0).f 0
        have f1 := (unhide W0).f 1
        have k4 := (unhide W0).s0 (.int .i64 0)
        have k5 := (unhide W0).s1 (.int .i64 0) (.int .i64 0)
        go_wp2
        refine bodyPost_ret (v := .tuple #[rv 0 0, .bool false]) (by simp [results, Tryz.results267, go_sem, k4, k5]) rfl ⟨rfl, ?_⟩
        repeat (first | exact unhide HB1 | refine below_sc ?_ _ _ _ (by omega))
    · have hres : (x, y, true) = (sx, sy, so) := by rw [← unhide HQ, sumFrom_end (by have := unhide HL; omega)]
      simp only [Prod.mk.injEq] at hres
      obtain ⟨rfl, rfl, rfl⟩ := hres
      have s0 := (unhide HV1).c0
      have s1 := (unhide HV1).c1
      have t0 := (unhide HV0).c0
      have t1 := (unhide HV0).c1
      have f0 := (unhide HV0).f 0
      have f1 := (unhide HV0).f 1
      have k4 := (unhide HV0).s0 (.int .i64 x)
      have k5 := (unhide HV0).s1 (.int .i64 x) (.int .i64 y)
      go_wp2
      refine bodyPost_ret (v := .tuple #[rv x y, .bool true]) (by simp [results, Tryz.results267, go_sem, k4, k5]) rfl ⟨rfl, ?_⟩
      repeat (first | exact unhide HB | refine below_sc ?_ _ _ _ (by omega))
end Go.Proofs.YtfbphoppgmganaaGreat

/-
  What all machines can together, by the program: Total; walks over the dump.
-/
namespace Go.Proofs.YtfbphoppgmganaaGreat
open Go.RowKit
set_option linter.unusedVariables false

set_option maxRecDepth 100000 in
set_option maxHeartbeats 2000000 in
theorem caps_any (x : Sls) (s : St) (w : World) (h : MacRow w x.ma x.ml s.ms) (hl : x.ml ≤ 1048576) :
    Calls Tryz.prog 207 #[sv x s] w fun e w' => e = .returned (.tuple #[rv (sumR (capsOf s.ms)).1 (sumR (capsOf s.ms)).2.1, .bool (sumR (capsOf s.ms)).2.2]) ∧ Below w.heap.size w w' := by
  obtain ⟨i0, hi, hz0, hz1, hz2⟩ := info_parts Tryz.infoR
  obtain ⟨qa, ql, qc, aa, al, ac, ma, ml, mc, ca, cl, cc⟩ := x
  obtain ⟨qs, clock, epoch, next, serial, apps, ms, cs⟩ := s
  simp only at h hl ⊢
  have HR := hide h
  have HL := hide h.1
  obtain ⟨c, hc⟩ : ∃ c : Array Value, #[.slice qa ql qc, .int .i64 clock, .int .i64 epoch, .int .i64 next, .int .i64 serial, .slice aa al ac, .slice ma ml mc, .slice ca cl cc] = c := ⟨_, rfl⟩
  have HC := hide hc
  have HB0 := hide (capW_below w c)
  have V0 := hide (capW_var w c)
  have hW := capW_size w c
  have HW := hide hW
  clear h hc hW
  obtain ⟨⟨sx, sy, so⟩, hs⟩ : ∃ s, sumR (capsOf ms) = s := ⟨_, rfl⟩
  have HS := hide hs
  rw [hs]
  clear hs
  go_enter Tryz.func207, Tryz.ntmps207
  go_wp2
  go_loopw [4, 10] (fun v i wr => ∃ (k : Nat), k ≤ ml ∧ i = .int .i64 k ∧ Hid (ROwn (capW w c).heap.size wr v (capsOf (ms.take k))) ∧ Hid (Below (capW w c).heap.size (capW w c) wr)) (fun _ i _ => ml - (intOf i).toNat)
  case atStart =>
    obtain rfl := unhide HC
    exact ⟨0, Nat.zero_le _, rfl, hide (by simpa [capsOf] using rown_nil _ _), hide (Below.refl _ _)⟩
  case round =>
    obtain ⟨k, hk, rfl, HO, HB⟩ := hrel
    by_cases hlt : k < ml
    · obtain ⟨b, off, rfl, hq⟩ := (((unhide HR).below (unhide HB0)).below (unhide HB)).at hlt
      have hkl : k < ms.length := by have := unhide HL; omega
      have hst := hide (capsOf_step hkl)
      obtain ⟨c0, c1, c2, c3⟩ := hq hkl
      obtain ⟨m, hs⟩ : ∃ q, ms[k] = q := ⟨_, rfl⟩
      rw [hs] at c0 c1 c2 c3 hst
      have hal : (capsOf (ms.take k)).length ≤ 1048576 := by simp [capsOf]; omega
      obtain ⟨acc, hacc⟩ : ∃ a, capsOf (ms.take k) = a := ⟨_, rfl⟩
      rw [hacc] at hst hal HO
      obtain ⟨nm, me, cp, se⟩ := m
      simp only at c0 c1 c2 c3 hst
      have HB2 := hide (below_al (unhide HB) (macobj ⟨nm, me, cp, se⟩))
      have HO2 := hide ((unhide HO).below (below_al (Below.refl _ wr) (macobj ⟨nm, me, cp, se⟩)))
      have hs2 : (capW w c).heap.size ≤ (wr.alloc (macobj ⟨nm, me, cp, se⟩)).heap.size := (unhide HB2).size
      have hown : (wr.alloc (macobj ⟨nm, me, cp, se⟩)).ownsRow (capW w c).heap.size 30 2 _ acc.length (rcells acc) := unhide HO2
      clear hq hs hkl hacc HO HB
      go_wp2_with (at_builtin; refine wpList_append_own _ rfl _ _ 234 rfl (capW w c).heap.size 30 i0 (.agg #[.int .i64 0, .int .i64 0]) 2 16 Tryz.underlying234 hi hz0 hz1 hz2 rfl (by decide) _ _ _ rfl (hown.alloc _) ⟨wr.heap.size + 1, 0, none⟩ 1 1 (rcell (me, cp)) rfl rfl ?c1 ?c2 ?c3 ?c4 ?c5 ?_)
      case c1 =>
        intro j x hj
        match j, hj with
        | 0, hj => simp at hj; subst hj; simp [Addr.add]
        | 1, hj => simp at hj; subst hj; simp [Addr.add]
        | _ + 2, hj => simp at hj
      case c2 => intro x hx; simp at hx; rcases hx with rfl | rfl <;> rfl
      case c3 => unfold maxLen; omega
      case c4 => omega
      case c5 => simp at hs2 ⊢; omega
      intro v' w3 hown' hgrow _
      have R := rown_step (q := (me, cp)) (unhide HB2) (unhide HO2) hown' hgrow hs2
      have HR3 := hide R
      clear hown' hgrow hown c0 c1 c2 c3 R
      go_wp2
      go_roundw
      case rel => exact ⟨k + 1, by omega, by go_num, hide (by rw [unhide hst]; exact (unhide HR3).1), hide (unhide HR3).2⟩
      case measure => simp [intOf]; omega
    · have htk : ms.take k = ms := List.take_of_length_le (by have := unhide HL; omega)
      rw [htk] at HO
      obtain ⟨ao, cp, rfl, hrow, hcp⟩ := (unhide HO).row
      have hlc : (capsOf ms).length ≤ 1048576 := by have := unhide HL; simp [capsOf]; omega
      have CT := hide (together_any ao _ cp (capsOf ms) wr hrow hlc)
      rw [unhide HS] at CT
      obtain ⟨n, hn⟩ : ∃ n, (capsOf ms).length = n := ⟨_, rfl⟩
      rw [hn] at CT ⊢
      clear hrow hn htk hcp hlc HO
      go_wp2_with fail
      refine (unhide CT).mono ?_
      rintro e w1 ⟨rfl, hb⟩
      have hsz : w.heap.size + 1 < (capW w c).heap.size := by have := unhide HW; omega
      have V1 : Var w1 30 (w.heap.size + 1) 0 0 := Var.below ((unhide HB).block _ hsz |>.trans (unhide V0)) hb
      have HB1 := hide (below_on (below_on (unhide HB0) (unhide HB)) hb)
      have t0 := V1.c0
      have t1 := V1.c1
      have f0 := V1.f 0
      have f1 := V1.f 1
      have k4 := V1.s0 (.int .i64 sx)
      have k5 := V1.s1 (.int .i64 sx) (.int .i64 sy)
      clear hb V1 CT HB HB0
      go_wp2
      refine bodyPost_ret (v := .tuple #[rv sx sy, .bool so]) (by simp [results, Tryz.results207, go_sem, k4, k5]) rfl ⟨rfl, ?_⟩
      repeat (first | exact unhide HB1 | refine below_sc ?_ _ _ _ (by omega))
end Go.Proofs.YtfbphoppgmganaaGreat

/-
  What all machines can together, by the program: Total; a walk over the dump.
-/
namespace Go.Proofs.YtfbphoppgmganaaGreat
open Go.RowKit
set_option linter.unusedVariables false

set_option maxRecDepth 100000 in
set_option maxHeartbeats 2000000 in
theorem implTotal_any (x : Sls) (s : St) (w : World) (h : MacRow w x.ma x.ml s.ms) (hl : x.ml ≤ 1048576) :
    Calls Tryz.prog 155 #[sv x s] w fun e w' => e = .returned (rv (sumR (capsOf s.ms)).1 (sumR (capsOf s.ms)).2.1) ∧ Below w.heap.size w w' := by
  have HR := hide h
  clear h
  obtain ⟨⟨sx, sy, so⟩, hs⟩ : ∃ y, sumR (capsOf s.ms) = y := ⟨_, rfl⟩
  have CC := hide (fun wx (hb : Below w.heap.size w wx) => by have := caps_any x s wx ((unhide HR).below hb) hl; rw [hs] at this; exact this)
  rw [hs]
  clear hs
  obtain ⟨qa, ql, qc, aa, al, ac, ma, ml, mc, ca, cl, cc⟩ := x
  obtain ⟨qs, clock, epoch, next, serial, apps, ms, cs⟩ := s
  go_enter Tryz.func155, Tryz.ntmps155
  go_wp2_with fail
  refine (unhide CC _ (capW_below w _)).mono ?_
  rintro e w1 ⟨rfl, hb⟩
  have V1 := (capW_var w _).below hb
  have HB1 := hide (below_on (capW_below w _) hb)
  have V2 := V1.al (.cells #[.int .i64 sx, .int .i64 sy] 30)
  have t0 := V2.c0
  have t1 := V2.c1
  have f0 := V2.f 0
  have f1 := V2.f 1
  have u0 := V1.c0
  have u1 := V1.c1
  have e0 := V1.f 0
  have e1 := V1.f 1
  have VG := V2.set sx sy
  have k6 := VG.c0
  have k7 := VG.c1
  clear hb V1 V2 VG CC
  go_wp2
  refine bodyPost_ret (v := rv sx sy) (by simp [results, Tryz.results155, go_sem, k6, k7]) rfl ⟨rfl, ?_⟩
  repeat (first | exact unhide HB1 | refine below_al ?_ _ | refine below_sc ?_ _ _ _ (by omega))
end Go.Proofs.YtfbphoppgmganaaGreat

/-
  What the model's Add answers; a walk over the dump.
-/
namespace Go.Proofs.YtfbphoppgmganaaGreat
open Go.RowKit
set_option linter.unusedVariables false

set_option maxRecDepth 100000 in
set_option maxHeartbeats 1000000 in
theorem specAdd_any (a b c d : Int) (w : World) :
    Calls Tryz.prog 74 #[rv a b, rv c d] w fun e w' => e = .returned (.tuple #[bothV 1 a b c d, .bool (bothOk 1 a b c d)]) ∧ Below w.heap.size w w' := by
  have hv : ∃ x y, bothV 1 a b c d = rv x y := by unfold bothV; split <;> exact ⟨_, _, rfl⟩
  obtain ⟨x, y, hv⟩ := hv
  have hc := l02Both_any a b c d 1 ((w.alloc (.cells #[.int .i64 a, .int .i64 b] 30)).alloc (.cells #[.int .i64 c, .int .i64 d] 30) |>.alloc (.cells #[.int .i64 0, .int .i64 0] 30)) (by decide)
  rw [hv] at hc ⊢
  go_enter Tryz.func74, Tryz.ntmps74
  go_wp2_with fail
  refine hc.mono ?_
  rintro e w1 ⟨rfl, hb⟩
  have hk : Var w1 30 (w.heap.size + 1 + 1) 0 0 := Var.below (by simpa using var_new ((w.alloc (.cells #[.int .i64 a, .int .i64 b] 30)).alloc (.cells #[.int .i64 c, .int .i64 d] 30)) 30 0 0) hb
  have k0 := hk.c0
  have k1 := hk.c1
  have k2 := hk.f 0
  have k3 := hk.f 1
  have k4 := hk.s0 (.int .i64 x)
  have k5 := hk.s1 (.int .i64 x) (.int .i64 y)
  have HB := hide (below_on (below_al (below_al (below_al (Below.refl _ _) _) _) _) hb)
  clear hb hc hk
  go_wp2
  refine bodyPost_ret (v := .tuple #[rv x y, .bool (bothOk 1 a b c d)]) (by simp [results, Tryz.results74, go_sem, k4, k5]) rfl ⟨rfl, ?_⟩
  repeat (first | exact unhide HB | refine below_al ?_ _ | refine below_sc ?_ _ _ _ (by omega))
end Go.Proofs.YtfbphoppgmganaaGreat

/-
  What amounts are together, by the model; a walk over the dump.
-/
namespace Go.Proofs.YtfbphoppgmganaaGreat
open Go.RowKit
set_option linter.unusedVariables false

/-- the sum so far and the next amount stand; so does the result -/
def SumHeld (w0 : World) (b p : Nat) (r : Int × Int) (x y : Int) (w : World) : Prop := RAt w b p r ∧ Var w 30 (w0.heap.size + 1) x y ∧ Var w 30 w0.heap.size 0 0 ∧ Below w0.heap.size w0 w
theorem SumHeld.call {w0 w w' : World} {b p : Nat} {r : Int × Int} {x y : Int} (h : SumHeld w0 b p r x y w) (hb : Below w.heap.size w w') : SumHeld w0 b p r x y w' := ⟨h.1.below hb, h.2.1.below hb, h.2.2.1.below hb, below_on h.2.2.2 hb⟩
theorem SumHeld.drew {w0 w : World} {b p : Nat} {r : Int × Int} {x y : Int} (h : SumHeld w0 b p r x y w) : SumHeld w0 b p r x y w.drew := h.call (Below.refl _ _).drew
theorem SumHeld.al {w0 w : World} {b p : Nat} {r : Int × Int} {x y : Int} (h : SumHeld w0 b p r x y w) (o : Obj) : SumHeld w0 b p r x y (w.alloc o) := h.call (below_al (Below.refl _ _) o)
theorem SumHeld.set {w0 w : World} {b p : Nat} {r : Int × Int} {x y : Int} (h : SumHeld w0 b p r x y w) (k j : Nat) (v : Value) (h1 : w0.heap.size + 1 < k) (h2 : b ≠ k) : SumHeld w0 b p r x y (w.setCell ⟨k, j, none⟩ v) := by
  have hc : ∀ q, (w.setCell ⟨k, j, none⟩ v).cell? ⟨b, q, none⟩ = w.cell? ⟨b, q, none⟩ := fun q => by unfold World.cell?; rw [heap_setCell_other w ⟨k, j, none⟩ b v h2]
  exact ⟨⟨(hc _).trans h.1.1, (hc _).trans h.1.2⟩, h.2.1.other _ _ _ (by omega), h.2.2.1.other _ _ _ (by omega), below_sc h.2.2.2 _ _ _ (by omega)⟩
theorem SumHeld.read (w0 : World) (b p : Nat) (r : Int × Int) (x y : Int) : ∀ wx, SumHeld w0 b p r x y wx → wx.cell? ⟨b, p, none⟩ = some (.int .i64 r.1) ∧ wx.cell? ⟨b, p + 1, none⟩ = some (.int .i64 r.2) ∧ wx.cell? ⟨w0.heap.size + 1, 0, none⟩ = some (.int .i64 x) ∧ wx.cell? ⟨w0.heap.size + 1, 1, none⟩ = some (.int .i64 y) :=
  fun wx h => ⟨h.1.1, h.1.2, h.2.1.c0, h.2.1.c1⟩

set_option maxRecDepth 100000 in
set_option maxHeartbeats 4000000 in
theorem l04Sum_any (ao : Option Addr) (len cap : Nat) (l : List (Int × Int)) (w : World) (h : RRow w ao len l) (hl : len ≤ 1048576) :
    Calls Tryz.prog 182 #[.slice ao len cap] w fun e w' => e = .returned (.tuple #[rv (sumR l).1 (sumR l).2.1, .bool (sumR l).2.2]) ∧ Below w.heap.size w w' := by
  have HR := hide h
  have HL := hide h.1
  obtain ⟨⟨sx, sy, so⟩, hs⟩ : ∃ s, sumR l = s := ⟨_, rfl⟩
  have HS := hide (show sumFrom l 0 0 = (sx, sy, so) from hs)
  rw [hs]
  clear h hs
  go_enter Tryz.func182, Tryz.ntmps182
  go_wp2
  go_loopw [5] (fun i wr => ∃ (k : Nat) (x y : Int), k ≤ len ∧ i = .int .i64 k ∧ Hid (sumFrom (l.drop k) x y = (sx, sy, so)) ∧ Hid (Var wr 30 w.heap.size 0 0) ∧ Hid (Var wr 30 (w.heap.size + 1) x y) ∧ Hid (Below w.heap.size w wr)) (fun i _ => len - (intOf i).toNat)
  case atStart => exact ⟨0, 0, 0, Nat.zero_le _, rfl, hide (by simpa using unhide HS), hide ((var_new w _ _ _).al _), hide (var_new2 w _ _ 0 0 0 0), hide (below_al (below_al (Below.refl _ _) _) _)⟩
  case round =>
    obtain ⟨k, x, y, hk, rfl, HQ, HV0, HV1, HB⟩ := hrel
    by_cases hlt : k < len
    · obtain ⟨b, off, rfl, hq⟩ := ((unhide HR).below (unhide HB)).at hlt
      have hkl : k < l.length := by have := unhide HL; omega
      have hst := sumFrom_step hkl x y
      have A0 := hide (show SumHeld w b (off + k * 2) l[k] x y wr from ⟨hq hkl, unhide HV1, unhide HV0, unhide HB⟩)
      obtain ⟨⟨a, d⟩, hs⟩ : ∃ q, l[k] = q := ⟨_, rfl⟩
      rw [hs] at A0 hst
      simp only at hst
      have HST := hide hst
      have R := SumHeld.read w b (off + k * 2) (a, d) x y
      simp only at R
      have k0 : (0 : Int) ≤ k := by omega
      have k1 : (k : Int) < len := by omega
      clear hq hs hkl hst HV0 HV1 HB
      have CA := hide (fun wx => specAdd_any x y a d wx)
      obtain ⟨x', y', ok, hv⟩ : ∃ x' y' ok, bothV 1 x y a d = rv x' y' ∧ bothOk 1 x y a d = ok := by
        cases ho : bothOk 1 x y a d
        · exact ⟨0, 0, _, both_no ho, rfl⟩
        · exact ⟨_, _, _, both_yes ho, rfl⟩
      have HVV := hide hv
      rw [hv.1, hv.2] at CA
      clear hv
      have sz1 := (unhide A0).2.1.lt
      have sb1 := (unhide A0).1.lt
      go_wp2_with fail
      go_cut [6, 7] from 15 to 24 (fun v6 v7 wx => ∃ g, v6 = .pointer (some ⟨g, 0, none⟩) ∧ v7 = .bool ok ∧ SumHeld w b (off + k * 2) (a, d) x y wx ∧ Var wx 30 g x' y' ∧ w.heap.size + 1 < g)
      case first =>
        go_region_held3 (fun wx => SumHeld w b (off + k * 2) (a, d) x y wx)
          (first | (with_reducible assumption) | exact unhide SA | exact (unhide A0).drew | exact SumHeld.al (unhide SA) _ | exact SumHeld.al (by assumption) _ | exact SumHeld.al (unhide A0).drew _ | exact SumHeld.call (by assumption) (by assumption) | exact SumHeld.set (SumHeld.set (unhide SA) _ _ _ (by first | omega | (simp <;> omega)) (by first | omega | (simp <;> omega))) _ _ _ (by first | omega | (simp <;> omega)) (by first | omega | (simp <;> omega)) | exact SumHeld.set (SumHeld.set (by assumption) _ _ _ (by first | omega | (simp <;> omega)) (by first | omega | (simp <;> omega))) _ _ _ (by first | omega | (simp <;> omega)) (by first | omega | (simp <;> omega)))
          (first
          | (go_at_call 74; refine (unhide CA _).mono ?_; rintro e wt ⟨rfl, hb⟩; have SA := hide (SumHeld.call (w0 := w) (b := b) (p := off + k * 2) (r := (a, d)) (x := x) (y := y) (by assumption) hb); have sz := (unhide SA).2.1.lt; have sb := (unhide SA).1.lt
             first
               | (have V5 := (var_new _ 30 0 0).below hb; (try simp at V5); have c50 := V5.c0; have c51 := V5.c1; have f50 := V5.f 0; have f51 := V5.f 1; have V5 := hide V5)
               | (have V5 := (var_new _ 30 0 0).drew.below hb; (try simp at V5); have c50 := V5.c0; have c51 := V5.c1; have f50 := V5.f 0; have f51 := V5.f 1; have V5 := hide V5)
               | skip))
        all_goals
          go_wp2_with fail
          go_meet
          exact ⟨_, rfl, rfl, by first | assumption | exact unhide SA | exact SumHeld.al (unhide SA) _, by first | exact var_new _ _ _ _ | exact (unhide V5).set _ _, by first | omega | (simp <;> omega)⟩
      case rest =>
        obtain ⟨g, rfl, rfl, hA, hV, hg⟩ := hcut
        have A1 := hide hA
        have W1 := hide hV
        clear hA hV A0 CA R
        have v0 := (unhide W1).c0
        have v1 := (unhide W1).c1
        have s0 := (unhide A1).2.1.c0
        have s1 := (unhide A1).2.1.c1
        have sf0 := (unhide A1).2.1.f 0
        have sf1 := (unhide A1).2.1.f 1
        have t0 := (unhide A1).2.2.1.c0
        have t1 := (unhide A1).2.2.1.c1
        have tf0 := (unhide A1).2.2.1.f 0
        have tf1 := (unhide A1).2.2.1.f 1
        cases ok with
        | true =>
          have hxy := both_yes (unhide HVV).2
          rw [(unhide HVV).1] at hxy
          simp only [rv, Value.agg.injEq, Array.mk.injEq, List.cons.injEq, Value.int.injEq, and_true, true_and] at hxy
          rw [if_pos (unhide HVV).2, ← hxy.1, ← hxy.2] at HST
          clear hxy HVV
          go_wp2
          go_roundw
          case rel => exact ⟨k + 1, x', y', by omega, by go_num, hide (by rw [← unhide HST]; exact unhide HQ), hide (((unhide A1).2.2.1.other _ _ _ (show w.heap.size ≠ w.heap.size + 1 by omega)).other _ _ _ (show w.heap.size ≠ w.heap.size + 1 by omega)), hide ((unhide A1).2.1.set _ _), hide (below_sc (below_sc (unhide A1).2.2.2 _ _ _ (show w.heap.size ≤ w.heap.size + 1 by omega)) _ _ _ (show w.heap.size ≤ w.heap.size + 1 by omega))⟩
          case measure => simp [intOf]; omega
        | false =>
          rw [if_neg (by rw [(unhide HVV).2]; simp)] at HST
          have hres := (unhide HST).symm.trans (unhide HQ)
          simp only [Prod.mk.injEq] at hres
          obtain ⟨rfl, rfl, rfl⟩ := hres
          have k4 := (unhide A1).2.2.1.s0 (.int .i64 0)
          have k5 := (unhide A1).2.2.1.s1 (.int .i64 0) (.int .i64 0)
          have HB1 := hide (unhide A1).2.2.2
          clear HST HS HVV
          go_wp2
          refine bodyPost_ret (v := .tuple #[rv 0 0, .bool false]) (by simp [results, Tryz.results182, go_sem, k4, k5]) rfl ⟨rfl, ?_⟩
          repeat (first | exact unhide HB1 | refine below_sc ?_ _ _ _ (by omega))
    · have hres : (x, y, true) = (sx, sy, so) := by rw [← unhide HQ, sumFrom_end (by have := unhide HL; omega)]
      simp only [Prod.mk.injEq] at hres
      obtain ⟨rfl, rfl, rfl⟩ := hres
      have s0 := (unhide HV1).c0
      have s1 := (unhide HV1).c1
      have t0 := (unhide HV0).c0
      have t1 := (unhide HV0).c1
      have f0 := (unhide HV0).f 0
      have f1 := (unhide HV0).f 1
      have k4 := (unhide HV0).s0 (.int .i64 x)
      have k5 := (unhide HV0).s1 (.int .i64 x) (.int .i64 y)
      go_wp2
      refine bodyPost_ret (v := .tuple #[rv x y, .bool true]) (by simp [results, Tryz.results182, go_sem, k4, k5]) rfl ⟨rfl, ?_⟩
      repeat (first | exact unhide HB | refine below_sc ?_ _ _ _ (by omega))
end Go.Proofs.YtfbphoppgmganaaGreat

/-
  What the machines can, by the model: l04Caps; a walk over the dump.
-/
namespace Go.Proofs.YtfbphoppgmganaaGreat
open Go.RowKit
set_option linter.unusedVariables false

set_option maxRecDepth 100000 in
set_option maxHeartbeats 2000000 in
theorem l04Caps_any (x : Sls) (s : St) (w : World) (h : MacRow w x.ma x.ml s.ms) (hl : x.ml ≤ 1048576) :
    Calls Tryz.prog 184 #[sv x s] w fun e w' => ∃ v, e = .returned v ∧ ROwn w.heap.size w' v (capsOf s.ms) ∧ Below w.heap.size w w' := by
  obtain ⟨i0, hi, hz0, hz1, hz2⟩ := info_parts Tryz.infoR
  obtain ⟨qa, ql, qc, aa, al, ac, ma, ml, mc, ca, cl, cc⟩ := x
  obtain ⟨qs, clock, epoch, next, serial, apps, ms, cs⟩ := s
  simp only at h hl ⊢
  have HR := hide h
  have HL := hide h.1
  have HB0 := hide (boxW_below w #[.slice qa ql qc, .int .i64 clock, .int .i64 epoch, .int .i64 next, .int .i64 serial, .slice aa al ac, .slice ma ml mc, .slice ca cl cc])
  have P0 := hide (boxW_blk w #[.slice qa ql qc, .int .i64 clock, .int .i64 epoch, .int .i64 next, .int .i64 serial, .slice aa al ac, .slice ma ml mc, .slice ca cl cc])
  have HW := hide (boxW_size w #[.slice qa ql qc, .int .i64 clock, .int .i64 epoch, .int .i64 next, .int .i64 serial, .slice aa al ac, .slice ma ml mc, .slice ca cl cc])
  have HO0 := hide (rown_empty (boxW w #[.slice qa ql qc, .int .i64 clock, .int .i64 epoch, .int .i64 next, .int .i64 serial, .slice aa al ac, .slice ma ml mc, .slice ca cl cc]))
  obtain ⟨c, hc⟩ : ∃ c : Array Value, #[.slice qa ql qc, .int .i64 clock, .int .i64 epoch, .int .i64 next, .int .i64 serial, .slice aa al ac, .slice ma ml mc, .slice ca cl cc] = c := ⟨_, rfl⟩
  rw [hc] at HB0 HW HO0
  have P0 := hide (show Blk (boxW w c) w.heap.size #[.slice qa ql qc, .int .i64 clock, .int .i64 epoch, .int .i64 next, .int .i64 serial, .slice aa al ac, .slice ma ml mc, .slice ca cl cc] 40 by rw [hc]; exact boxW_blk w c)
  have HC := hide hc
  clear h hc
  go_enter Tryz.func184, Tryz.ntmps184
  go_wp2
  go_loopw [3, 4] (fun v i wr => ∃ (k : Nat), k ≤ ml ∧ i = .int .i64 k ∧ Hid (ROwn (boxW w c).heap.size wr v (capsOf (ms.take k))) ∧ Hid (Below (boxW w c).heap.size (boxW w c) wr)) (fun _ i _ => ml - (intOf i).toNat)
  case atStart =>
    obtain rfl := unhide HC
    have h1 := unhide HW
    refine ⟨0, Nat.zero_le _, rfl, hide ?_, hide (below_al (Below.refl _ _) _)⟩
    have := unhide HO0
    rw [h1] at this
    rw [h1]
    exact this
  case round =>
    obtain ⟨k, hk, rfl, HO, HB⟩ := hrel
    have hn1 : w.heap.size < (boxW w c).heap.size := by have := unhide HW; omega
    have p6 := Blk.at (show Blk wr w.heap.size _ 40 from ((unhide HB).block _ hn1).trans (unhide P0)) 6
    simp at p6
    by_cases hlt : k < ml
    · obtain ⟨b, off, rfl, hq⟩ := (((unhide HR).below (unhide HB0)).below (unhide HB)).at hlt
      have hkl : k < ms.length := by have := unhide HL; omega
      have hst := hide (capsOf_step hkl)
      obtain ⟨c0, c1, c2, c3⟩ := hq hkl
      obtain ⟨m, hs⟩ : ∃ q, ms[k] = q := ⟨_, rfl⟩
      rw [hs] at c0 c1 c2 c3 hst
      have hal : (capsOf (ms.take k)).length ≤ 1048576 := by simp [capsOf]; omega
      obtain ⟨acc, hacc⟩ : ∃ a, capsOf (ms.take k) = a := ⟨_, rfl⟩
      rw [hacc] at hst hal HO
      obtain ⟨nm, me, cp, se⟩ := m
      simp only at c0 c1 c2 c3 hst
      have hs2 : (boxW w c).heap.size ≤ wr.heap.size := (unhide HB).size
      have hown : wr.ownsRow (boxW w c).heap.size 30 2 _ acc.length (rcells acc) := unhide HO
      clear hq hs hkl hacc
      go_wp2_with (at_builtin; refine wpList_append_own _ rfl _ _ 234 rfl (boxW w c).heap.size 30 i0 (.agg #[.int .i64 0, .int .i64 0]) 2 16 Tryz.underlying234 hi hz0 hz1 hz2 rfl (by decide) _ _ _ rfl (hown.alloc _) ⟨wr.heap.size, 0, none⟩ 1 1 (rcell (me, cp)) rfl rfl ?c1 ?c2 ?c3 ?c4 ?c5 ?_)
      case c1 =>
        intro j x hj
        match j, hj with
        | 0, hj => simp at hj; subst hj; simp [Addr.add]
        | 1, hj => simp at hj; subst hj; simp [Addr.add]
        | _ + 2, hj => simp at hj
      case c2 => intro x hx; simp at hx; rcases hx with rfl | rfl <;> rfl
      case c3 => unfold maxLen; omega
      case c4 => omega
      case c5 => simp at hs2 ⊢; omega
      intro v' w3 hown' hgrow _
      have R := rown_step (q := (me, cp)) (unhide HB) (unhide HO) hown' hgrow hs2
      have HR3 := hide R
      clear hown' hgrow hown c0 c1 c2 c3 R p6
      go_wp2
      go_roundw
      case rel => exact ⟨k + 1, by omega, by go_num, hide (by rw [unhide hst]; exact (unhide HR3).1), hide (unhide HR3).2⟩
      case measure => simp [intOf]; omega
    · have htk : ms.take k = ms := List.take_of_length_le (by have := unhide HL; omega)
      rw [htk] at HO
      go_wp2
      go_ret
      exact ⟨_, rfl, (unhide HO).base (by omega), below_on (unhide HB0) (unhide HB)⟩

end Go.Proofs.YtfbphoppgmganaaGreat

/-
  What all machines can together, and what is on one of them, by the model: Total, UsedOn; walks over the dump.
-/
namespace Go.Proofs.YtfbphoppgmganaaGreat
open Go.RowKit
set_option linter.unusedVariables false

set_option maxRecDepth 100000 in
set_option maxHeartbeats 2000000 in
theorem specTotal_any (x : Sls) (s : St) (w : World) (h : MacRow w x.ma x.ml s.ms) (hl : x.ml ≤ 1048576) :
    Calls Tryz.prog 140 #[sv x s] w fun e w' => e = .returned (rv (sumR (capsOf s.ms)).1 (sumR (capsOf s.ms)).2.1) ∧ Below w.heap.size w w' := by
  have hlc : (capsOf s.ms).length ≤ 1048576 := by have := h.1; simp [capsOf]; omega
  have HR := hide h
  clear h
  obtain ⟨⟨sx, sy, so⟩, hs⟩ : ∃ y, sumR (capsOf s.ms) = y := ⟨_, rfl⟩
  have CC := hide (fun wx (hb : Below w.heap.size w wx) => l04Caps_any x s wx ((unhide HR).below hb) hl)
  have CS := hide (fun ao cap wx (h : RRow wx ao (capsOf s.ms).length (capsOf s.ms)) => by have := l04Sum_any ao _ cap (capsOf s.ms) wx h hlc; rw [hs] at this; exact this)
  rw [hs]
  clear hs
  obtain ⟨qa, ql, qc, aa, al, ac, ma, ml, mc, ca, cl, cc⟩ := x
  obtain ⟨qs, clock, epoch, next, serial, apps, ms, cs⟩ := s
  simp only at CC CS hlc
  go_enter Tryz.func140, Tryz.ntmps140
  go_wp2_with fail
  refine (unhide CC _ (capW_below w _)).mono ?_
  rintro e w1 ⟨v, rfl, ho, hb⟩
  obtain ⟨ao, cp, rfl, hrow, _⟩ := ho.row
  have V1 := (capW_var w _).below hb
  have HV1 := hide V1
  have HB1 := hide (below_on (capW_below w _) hb)
  have HROW := hide hrow
  obtain ⟨n, hn⟩ : ∃ n, (capsOf ms).length = n := ⟨_, rfl⟩
  rw [hn] at CS HROW ⊢
  clear hb V1 CC ho hrow hn hlc
  go_wp2_with fail
  refine (unhide CS _ _ _ (unhide HROW)).mono ?_
  rintro e w2 ⟨rfl, hb⟩
  have V1 := (unhide HV1).below hb
  have HB2 := hide (below_on (unhide HB1) hb)
  have V2 := V1.al (.cells #[.int .i64 sx, .int .i64 sy] 30)
  have t0 := V2.c0
  have t1 := V2.c1
  have f0 := V2.f 0
  have f1 := V2.f 1
  have VG := V2.set sx sy
  have k6 := VG.c0
  have k7 := VG.c1
  clear hb V1 V2 VG CS HV1 HB1 HROW
  go_wp2
  refine bodyPost_ret (v := rv sx sy) (by simp [results, Tryz.results140, go_sem, k6, k7]) rfl ⟨rfl, ?_⟩
  repeat (first | exact unhide HB2 | refine below_al ?_ _ | refine below_sc ?_ _ _ _ (by omega))
end Go.Proofs.YtfbphoppgmganaaGreat

/-
  What all machines can together: the two sides in one form.
-/
namespace Go.Proofs.YtfbphoppgmganaaGreat
open Go.RowKit
def totalV (s : St) : Int × Int := ((sumR (capsOf s.ms)).1, (sumR (capsOf s.ms)).2.1)
theorem SRow.ml {w : World} {x : Sls} {s : St} (h : SRow w x s) (hf : FitSt s) : x.ml ≤ 1048576 := by have := h.len.2.2.1; have := hf.2.2.1.1; omega
theorem SRow.al {w : World} {x : Sls} {s : St} (h : SRow w x s) (hf : FitSt s) : x.al ≤ 1048576 := by have := h.len.2.1; have := hf.2.1.1; omega
theorem SRow.ql {w : World} {x : Sls} {s : St} (h : SRow w x s) (hf : FitSt s) : x.ql ≤ 1048576 := by have := h.len.1; have := hf.1.1; omega
end Go.Proofs.YtfbphoppgmganaaGreat

/-
  A share of an amount: what the model's Share answers; a walk over the dump.
-/
namespace Go.Proofs.YtfbphoppgmganaaGreat
open Go.RowKit
set_option linter.unusedVariables false

def shareOk (a b n : Int) : Bool := resOk a b && inB n 0 10000
def shareM (a b n : Int) : Int := if shareOk a b n then a * n / 10000 else 0
def shareC (a b n : Int) : Int := if shareOk a b n then b * n / 10000 else 0
theorem mul_bd {a n A N : Int} (h0 : 0 ≤ a) (h1 : a ≤ A) (h2 : 0 ≤ n) (h3 : n ≤ N) : 0 ≤ a * n ∧ a * n ≤ A * N :=
  ⟨Int.mul_nonneg h0 h2, Int.mul_le_mul h1 h3 h2 (Int.le_trans h0 h1)⟩
set_option maxRecDepth 100000 in
set_option maxHeartbeats 1000000 in
theorem specShare_any (a b n : Int) (w : World) :
    Calls Tryz.prog 271 #[rv a b, .int .i64 n] w fun e w' => e = .returned (rv (shareM a b n) (shareC a b n)) ∧ Below w.heap.size w w' := by
  cases h1 : resOk a b
  · rw [show shareM a b n = 0 by simp [shareM, shareOk, h1], show shareC a b n = 0 by simp [shareC, shareOk, h1]]
    go_enter Tryz.func271, Tryz.ntmps271
    go_wp2_with (first | (go_at_call 146; refine (specResOk_any _ _ _).mono ?_; rintro e w' ⟨rfl, rfl⟩) | (go_at_call 63; refine (l01In_any _ _ _ _).mono ?_; rintro e w' ⟨rfl, rfl⟩))
    refine bodyPost_ret (v := rv 0 0) (by simp [results, Tryz.results271, go_sem]) rfl ⟨rfl, ?_⟩
    repeat (first | exact Below.refl _ _ | refine below_al ?_ _ | refine Below.drew ?_ | refine below_sc ?_ _ _ _ (by omega))
  · cases h2 : inB n 0 10000
    · rw [show shareM a b n = 0 by simp [shareM, shareOk, h2], show shareC a b n = 0 by simp [shareC, shareOk, h2]]
      go_enter Tryz.func271, Tryz.ntmps271
      go_wp2_with (first | (go_at_call 146; refine (specResOk_any _ _ _).mono ?_; rintro e w' ⟨rfl, rfl⟩) | (go_at_call 63; refine (l01In_any _ _ _ _).mono ?_; rintro e w' ⟨rfl, rfl⟩))
      refine bodyPost_ret (v := rv 0 0) (by simp [results, Tryz.results271, go_sem]) rfl ⟨rfl, ?_⟩
      repeat (first | exact Below.refl _ _ | refine below_al ?_ _ | refine Below.drew ?_ | refine below_sc ?_ _ _ _ (by omega))
    · rw [show shareM a b n = a * n / 10000 by simp [shareM, shareOk, h1, h2], show shareC a b n = b * n / 10000 by simp [shareC, shareOk, h1, h2]]
      obtain ⟨q1, q2, q3, q4⟩ := resOk_bd h1
      have hn : 0 ≤ n ∧ n ≤ 10000 := by simpa [inB] using h2
      obtain ⟨m1, m2⟩ := mul_bd q1 q2 hn.1 hn.2
      obtain ⟨m3, m4⟩ := mul_bd q3 q4 hn.1 hn.2
      go_enter Tryz.func271, Tryz.ntmps271
      go_wp2_with (first | (go_at_call 146; refine (specResOk_any _ _ _).mono ?_; rintro e w' ⟨rfl, rfl⟩) | (go_at_call 63; refine (l01In_any _ _ _ _).mono ?_; rintro e w' ⟨rfl, rfl⟩))
      refine bodyPost_ret (v := rv (a * n / 10000) (b * n / 10000)) (by simp [results, Tryz.results271, go_sem]) rfl ⟨rfl, ?_⟩
      repeat (first | exact Below.refl _ _ | refine below_al ?_ _ | refine Below.drew ?_ | refine below_sc ?_ _ _ _ (by omega))
end Go.Proofs.YtfbphoppgmganaaGreat

/-
  What is due to a queue of a total, and the most that it may have: in plain words.
-/
namespace Go.Proofs.YtfbphoppgmganaaGreat
open Go.RowKit
set_option linter.unusedVariables false

def fieldOf (most : Bool) (q : Q) : Int := if most then q.most else q.due
def byName (l : List Q) (n : List UInt8) : Q := l.getD (place l n).toNat ⟨[], [], 0, 0⟩
def ofP (l : List Q) (most : Bool) (t : Int × Int) : List (List UInt8) → Int × Int
  | [] => t
  | [_] => t
  | n :: m :: r => (shareM (ofP l most t (m :: r)).1 (ofP l most t (m :: r)).2 (fieldOf most (byName l n)), shareC (ofP l most t (m :: r)).1 (ofP l most t (m :: r)).2 (fieldOf most (byName l n)))
def ofR (l : List Q) (nm : List UInt8) (a b : Int) (most : Bool) : Int × Int := if path l nm = [] ∨ resOk a b = false then (0, 0) else ofP l most (a, b) (path l nm)
theorem ofP_last (l : List Q) (most : Bool) (t : Int × Int) {p : List (List UInt8)} (h : p ≠ []) : ofP l most t (p.drop (p.length - 1)) = t := by
  have hl : 0 < p.length := List.length_pos_iff.2 h
  rw [List.drop_eq_getElem_cons (by omega), show p.length - 1 + 1 = p.length by omega, List.drop_length]
  rfl
theorem ofP_step (l : List Q) (most : Bool) (t : Int × Int) {p : List (List UInt8)} {j : Nat} (h : j + 1 < p.length) :
    ofP l most t (p.drop j) = (shareM (ofP l most t (p.drop (j + 1))).1 (ofP l most t (p.drop (j + 1))).2 (fieldOf most (byName l p[j])), shareC (ofP l most t (p.drop (j + 1))).1 (ofP l most t (p.drop (j + 1))).2 (fieldOf most (byName l p[j]))) := by
  rw [List.drop_eq_getElem_cons (show j < p.length by omega), List.drop_eq_getElem_cons h, ofP]
theorem pathAt_names {l : List Q} (h : queuesOk l = true) : ∀ (n : Nat) (p : Int), ∀ x ∈ pathAt l n p, ∃ k : Nat, ∃ hk : k < l.length, place l x = k ∧ l[k].name = x
  | 0, _, x, hx => by simp [pathAt] at hx
  | n + 1, p, x, hx => by
    rw [pathAt] at hx
    split at hx
    · rename_i hp
      rcases List.mem_cons.1 hx with rfl | hx
      · refine ⟨p.toNat, hp.2, ?_, rfl⟩
        have := ok_at h p.toNat hp.2
        simp only [qOk, Bool.and_eq_true, decide_eq_true_eq] at this
        exact this.1.1.1.2
      · exact pathAt_names h n _ x hx
    · simp at hx
theorem path_names {l : List Q} {nm : List UInt8} : ∀ x ∈ path l nm, ∃ k : Nat, ∃ hk : k < l.length, place l x = k ∧ byName l x = l[k] := fun x hx => by
  unfold path at hx
  split at hx
  · rename_i h
    obtain ⟨k, hk, h1, h2⟩ := pathAt_names h _ _ x hx
    exact ⟨k, hk, h1, by rw [byName, h1]; simp [List.getD_eq_getElem?_getD, List.getElem?_eq_getElem hk]⟩
  · simp at hx
theorem pathAt_len {l : List Q} : ∀ (n : Nat) (p : Int), (pathAt l n p).length ≤ n
  | 0, _ => by simp [pathAt]
  | n + 1, p => by
    rw [pathAt]
    split
    · have := pathAt_len (l := l) n (place l l[p.toNat].parent); simp; exact this
    · simp
theorem path_len (l : List Q) (nm : List UInt8) : (path l nm).length ≤ l.length + 1 := by
  unfold path; split
  · exact pathAt_len _ _
  · simp
end Go.Proofs.YtfbphoppgmganaaGreat

/-
  One amount within another: in plain words.
-/
namespace Go.Proofs.YtfbphoppgmganaaGreat
def within (a b c d : Int) : Bool := resOk a b && resOk c d && decide (a ≤ c) && decide (b ≤ d)
end Go.Proofs.YtfbphoppgmganaaGreat

/-
  Whether one amount is within another: what the model's Within answers; a walk over the dump.
-/
namespace Go.Proofs.YtfbphoppgmganaaGreat
open Go.RowKit
set_option linter.unusedVariables false

set_option maxRecDepth 100000 in
set_option maxHeartbeats 1000000 in
theorem specWithin_any (a b c d : Int) (w : World) :
    Calls Tryz.prog 72 #[rv a b, rv c d] w fun e w' => e = .returned (.bool (within a b c d)) ∧ Below w.heap.size w w' := by
  cases h1 : resOk a b
  · rw [show within a b c d = false by simp [within, h1]]
    go_enter Tryz.func72, Tryz.ntmps72
    go_wp2_with (go_at_call 146; refine (specResOk_any _ _ _).mono ?_; rintro e w' ⟨rfl, rfl⟩)
    go_ret
    refine ⟨rfl, ?_⟩
    repeat (first | exact Below.refl _ _ | refine below_al ?_ _ | refine Below.drew ?_ | refine below_sc ?_ _ _ _ (by omega))
  · cases h2 : resOk c d
    · rw [show within a b c d = false by simp [within, h2]]
      go_enter Tryz.func72, Tryz.ntmps72
      go_wp2_with (go_at_call 146; refine (specResOk_any _ _ _).mono ?_; rintro e w' ⟨rfl, rfl⟩)
      go_ret
      refine ⟨rfl, ?_⟩
      repeat (first | exact Below.refl _ _ | refine below_al ?_ _ | refine Below.drew ?_ | refine below_sc ?_ _ _ _ (by omega))
    · by_cases h3 : a ≤ c
      · by_cases h4 : b ≤ d
        · rw [show within a b c d = true by simp [within, h1, h2, h3, h4]]
          go_enter Tryz.func72, Tryz.ntmps72
          go_wp2_with (go_at_call 146; refine (specResOk_any _ _ _).mono ?_; rintro e w' ⟨rfl, rfl⟩)
          go_ret
          refine ⟨rfl, ?_⟩
          repeat (first | exact Below.refl _ _ | refine below_al ?_ _ | refine Below.drew ?_ | refine below_sc ?_ _ _ _ (by omega))
        · rw [show within a b c d = false by simp [within, h4]]
          go_enter Tryz.func72, Tryz.ntmps72
          go_wp2_with (go_at_call 146; refine (specResOk_any _ _ _).mono ?_; rintro e w' ⟨rfl, rfl⟩)
          go_ret
          refine ⟨ret_bool (decide_eq_false (by omega)), ?_⟩
          repeat (first | exact Below.refl _ _ | refine below_al ?_ _ | refine Below.drew ?_ | refine below_sc ?_ _ _ _ (by omega))
      · rw [show within a b c d = false by simp [within, h3]]
        go_enter Tryz.func72, Tryz.ntmps72
        go_wp2_with (go_at_call 146; refine (specResOk_any _ _ _).mono ?_; rintro e w' ⟨rfl, rfl⟩)
        go_ret
        refine ⟨rfl, ?_⟩
        repeat (first | exact Below.refl _ _ | refine below_al ?_ _ | refine Below.drew ?_ | refine below_sc ?_ _ _ _ (by omega))
end Go.Proofs.YtfbphoppgmganaaGreat

/-
  Whether queues are a tree: what the model's QueuesOk answers; a walk over the dump.
-/
namespace Go.Proofs.YtfbphoppgmganaaGreat
open Go.RowKit
set_option linter.unusedVariables false

set_option maxRecDepth 100000 in
set_option maxHeartbeats 4000000 in
theorem specQueuesOk_any (ao : Option Addr) (len cap : Nat) (l : List Q) (w : World) (h : QRow w ao len l) (hl : len ≤ 1048576) (hn : ∀ q ∈ l, q.name.length ≤ 1048576) :
    Calls Tryz.prog 105 #[.slice ao len cap] w fun e w' => e = .returned (.bool (queuesOk l)) ∧ Below w.heap.size w w' := by
  have HR := hide h
  have HL := hide h.1
  have HN := hide hn
  clear h hn
  go_enter Tryz.func105, Tryz.ntmps105
  go_wp2
  go_loopw [3] (fun i wr => ∃ k : Nat, k ≤ len ∧ i = .int .i64 k ∧ Hid (okFrom l l 0 = okFrom l (l.drop k) k) ∧ Hid (Below w.heap.size w wr)) (fun i _ => len - (intOf i).toNat)
  case atStart => exact ⟨0, Nat.zero_le _, rfl, hide (by simp), hide (Below.refl _ _)⟩
  case round =>
    obtain ⟨k, hk, rfl, hp, HB⟩ := hrel
    by_cases hlt : k < len
    · have HR2 := hide ((unhide HR).below (unhide HB))
      obtain ⟨b, off, rfl, hq⟩ := (unhide HR2).at hlt
      have hkl : k < l.length := by have := unhide HL; omega
      have hst := hide (okFrom_step (l := l) (k := k) hkl)
      obtain ⟨c0, c1, c2, c3⟩ := hq hkl
      have hz := unhide HN l[k] (List.getElem_mem _)
      clear hq
      obtain ⟨⟨nm, pa, du, mo⟩, hs⟩ : ∃ s, l[k] = s := ⟨_, rfl⟩
      rw [hs] at c0 c1 c2 c3 hst hz
      simp only at c0 c1 c2 c3 hz
      clear hs hkl
      obtain ⟨b1, g1⟩ : ∃ b, nameOk nm = b := ⟨_, rfl⟩
      obtain ⟨p1, g2⟩ : ∃ p, place l nm = p := ⟨_, rfl⟩
      obtain ⟨p2, g3⟩ : ∃ p, place l pa = p := ⟨_, rfl⟩
      have CN := hide (fun wx => by have := specNameOk_any (bs nm) wx (by rw [bs_size]; exact hz); rw [show (bs nm).data.toList = nm by simp [bs], g1] at this; exact this)
      have RR := (unhide HR2).below (below_al (Below.refl _ wr) (.cells #[.string (bs nm), .string (bs pa), .int .i64 du, .int .i64 mo] 160))
      have CP1 := hide (by have := l03Place_any (some ⟨b, off, none⟩) len cap l nm _ RR hl; rw [g2] at this; exact this)
      have CP2 := hide (by have := l03Place_any (some ⟨b, off, none⟩) len cap l pa _ RR hl; rw [g3] at this; exact this)
      have HB2 := hide (below_al (unhide HB) (.cells #[.string (bs nm), .string (bs pa), .int .i64 du, .int .i64 mo] 160))
      have G1 := hide g1
      have G2 := hide g2
      have G3 := hide g3
      clear g1 g2 g3 RR HR2 hz
      cases b1 with
      | false =>
        go_wp2_with (first | (go_at_call 169; refine (unhide CN _).mono ?_; rintro e w' ⟨rfl, rfl⟩) | (go_at_call_of 171 nm; refine (unhide CP1).mono ?_; rintro e w' ⟨rfl, rfl⟩) | (go_at_call_of 171 pa; refine (unhide CP2).mono ?_; rintro e w' ⟨rfl, rfl⟩) | (go_at_call 63; refine (l01In_any _ _ _ _).mono ?_; rintro e w' ⟨rfl, rfl⟩))
        go_ret
        exact ⟨ret_bool (ok_no1 (by rw [unhide hp, unhide hst]; simp [qOk, unhide G1])).symm, unhide HB2⟩
      | true =>
        by_cases e2 : p1 = k
        · subst e2
          cases h3 : inB mo 0 10000
          · skip
            go_wp2_with (first | (go_at_call 169; refine (unhide CN _).mono ?_; rintro e w' ⟨rfl, rfl⟩) | (go_at_call_of 171 nm; refine (unhide CP1).mono ?_; rintro e w' ⟨rfl, rfl⟩) | (go_at_call_of 171 pa; refine (unhide CP2).mono ?_; rintro e w' ⟨rfl, rfl⟩) | (go_at_call 63; refine (l01In_any _ _ _ _).mono ?_; rintro e w' ⟨rfl, rfl⟩))
            go_ret
            exact ⟨ret_bool (ok_no1 (by rw [unhide hp, unhide hst]; simp [qOk, unhide G1, unhide G2, h3])).symm, unhide HB2⟩
          · cases h4 : inB du 0 mo
            · skip
              go_wp2_with (first | (go_at_call 169; refine (unhide CN _).mono ?_; rintro e w' ⟨rfl, rfl⟩) | (go_at_call_of 171 nm; refine (unhide CP1).mono ?_; rintro e w' ⟨rfl, rfl⟩) | (go_at_call_of 171 pa; refine (unhide CP2).mono ?_; rintro e w' ⟨rfl, rfl⟩) | (go_at_call 63; refine (l01In_any _ _ _ _).mono ?_; rintro e w' ⟨rfl, rfl⟩))
              go_ret
              exact ⟨ret_bool (ok_no1 (by rw [unhide hp, unhide hst]; simp [qOk, unhide G1, unhide G2, h3, h4])).symm, unhide HB2⟩
            · by_cases hk0 : k = 0
              · have k1 : ((k : Int) == 0) = true := by simp [hk0]
                have k2 : ¬ (0 : Int) < k := by omega
                have k3 : ¬ 0 < k := by omega
                have HK0 := hide hk0
                clear hk0
                have hbe := bs_empty pa
                by_cases e5 : pa = []
                · have E5 := hide e5
                  rw [decide_eq_true e5] at hbe
                  clear e5
                  by_cases e6 : du = 10000
                  · subst e6
                    go_wp2_with (first | (go_at_call 169; refine (unhide CN _).mono ?_; rintro e w' ⟨rfl, rfl⟩) | (go_at_call_of 171 nm; refine (unhide CP1).mono ?_; rintro e w' ⟨rfl, rfl⟩) | (go_at_call_of 171 pa; refine (unhide CP2).mono ?_; rintro e w' ⟨rfl, rfl⟩) | (go_at_call 63; refine (l01In_any _ _ _ _).mono ?_; rintro e w' ⟨rfl, rfl⟩))
                    go_roundw
                    case rel => exact ⟨k + 1, by omega, by go_num, hide (by rw [unhide hp, unhide hst]; simp [qOk, unhide G1, unhide G2, h3, h4, unhide HK0, unhide E5]), HB2⟩
                    case measure => simp [intOf]; omega
                  · have E6 := hide e6
                    have hd : (du == 10000) = false := by simp [e6]
                    clear e6
                    go_wp2_with (first | (go_at_call 169; refine (unhide CN _).mono ?_; rintro e w' ⟨rfl, rfl⟩) | (go_at_call_of 171 nm; refine (unhide CP1).mono ?_; rintro e w' ⟨rfl, rfl⟩) | (go_at_call_of 171 pa; refine (unhide CP2).mono ?_; rintro e w' ⟨rfl, rfl⟩) | (go_at_call 63; refine (l01In_any _ _ _ _).mono ?_; rintro e w' ⟨rfl, rfl⟩))
                    go_ret
                    exact ⟨ret_bool (ok_no1 (by rw [unhide hp, unhide hst]; simp [qOk, unhide G1, unhide G2, h3, h4, unhide HK0, unhide E5, unhide E6])).symm, unhide HB2⟩
                · have E5 := hide e5
                  rw [decide_eq_false e5] at hbe
                  clear e5
                  go_wp2_with (first | (go_at_call 169; refine (unhide CN _).mono ?_; rintro e w' ⟨rfl, rfl⟩) | (go_at_call_of 171 nm; refine (unhide CP1).mono ?_; rintro e w' ⟨rfl, rfl⟩) | (go_at_call_of 171 pa; refine (unhide CP2).mono ?_; rintro e w' ⟨rfl, rfl⟩) | (go_at_call 63; refine (l01In_any _ _ _ _).mono ?_; rintro e w' ⟨rfl, rfl⟩))
                  go_ret
                  exact ⟨ret_bool (ok_no1 (by rw [unhide hp, unhide hst]; simp [qOk, unhide G1, unhide G2, h3, h4, unhide HK0, unhide E5])).symm, unhide HB2⟩
              · have k1 : ((k : Int) == 0) = false := by simp [hk0]
                have k2 : (0 : Int) < k := by omega
                have k3 : 0 < k := by omega
                have HK0 := hide hk0
                clear hk0
                cases h7 : inB p2 0 ((k : Int) - 1)
                · skip
                  go_wp2_with (first | (go_at_call 169; refine (unhide CN _).mono ?_; rintro e w' ⟨rfl, rfl⟩) | (go_at_call_of 171 nm; refine (unhide CP1).mono ?_; rintro e w' ⟨rfl, rfl⟩) | (go_at_call_of 171 pa; refine (unhide CP2).mono ?_; rintro e w' ⟨rfl, rfl⟩) | (go_at_call 63; refine (l01In_any _ _ _ _).mono ?_; rintro e w' ⟨rfl, rfl⟩))
                  go_ret
                  exact ⟨ret_bool (ok_no1 (by rw [unhide hp, unhide hst]; simp [qOk, unhide G1, unhide G2, unhide G3, h3, h4, h7, unhide HK0])).symm, unhide HB2⟩
                · skip
                  go_wp2_with (first | (go_at_call 169; refine (unhide CN _).mono ?_; rintro e w' ⟨rfl, rfl⟩) | (go_at_call_of 171 nm; refine (unhide CP1).mono ?_; rintro e w' ⟨rfl, rfl⟩) | (go_at_call_of 171 pa; refine (unhide CP2).mono ?_; rintro e w' ⟨rfl, rfl⟩) | (go_at_call 63; refine (l01In_any _ _ _ _).mono ?_; rintro e w' ⟨rfl, rfl⟩))
                  go_roundw
                  case rel => exact ⟨k + 1, by omega, by go_num, hide (by rw [unhide hp, unhide hst]; simp [qOk, unhide G1, unhide G2, unhide G3, h3, h4, h7, unhide HK0]), HB2⟩
                  case measure => simp [intOf]; omega
        · have h2 : (p1 == (k : Int)) = false := by simp [e2]
          have E2 := hide e2
          clear e2
          go_wp2_with (first | (go_at_call 169; refine (unhide CN _).mono ?_; rintro e w' ⟨rfl, rfl⟩) | (go_at_call_of 171 nm; refine (unhide CP1).mono ?_; rintro e w' ⟨rfl, rfl⟩) | (go_at_call_of 171 pa; refine (unhide CP2).mono ?_; rintro e w' ⟨rfl, rfl⟩) | (go_at_call 63; refine (l01In_any _ _ _ _).mono ?_; rintro e w' ⟨rfl, rfl⟩))
          go_ret
          exact ⟨ret_bool (ok_no1 (by rw [unhide hp, unhide hst]; simp [qOk, unhide G1, unhide G2, unhide E2])).symm, unhide HB2⟩
    · have ho := hide (show okFrom l l 0 = true by rw [unhide hp]; exact okFrom_end (by have := unhide HL; omega))
      have HD := hide (okFrom_due l 0 (unhide ho))
      have HR2 := hide ((unhide HR).below (unhide HB))
      clear hp
      go_wp2
      go_loopw [5] (fun i wx => ∃ m : Nat, m ≤ len ∧ i = .int .i64 m ∧ Hid (sumsOk l l = sumsOk l (l.drop m)) ∧ wx = wr) (fun i _ => len - (intOf i).toNat)
      case atStart => exact ⟨0, Nat.zero_le _, rfl, hide (by simp), rfl⟩
      case round =>
        obtain ⟨m, hm, rfl, hp, rfl⟩ := hrel
        by_cases hlm : m < len
        · obtain ⟨b, off, rfl, hq⟩ := (unhide HR2).at hlm
          have hml : m < l.length := by have := unhide HL; omega
          have hst := hide (sumsOk_step (l := l) (k := m) hml)
          have c0 := (hq hml).1
          clear hq
          obtain ⟨nm, hs⟩ : ∃ s, l[m].name = s := ⟨_, rfl⟩
          rw [hs] at c0 hst
          obtain ⟨t, ht⟩ : ∃ t, kidsSum l nm = t := ⟨_, rfl⟩
          have CS := hide (by have := l03Sum_any (some ⟨b, off, none⟩) len cap l nm _ (unhide HR2) hl (unhide HD); rw [ht] at this; exact this)
          have HTT := hide ht
          clear hs hml ht
          by_cases hgt : 10000 < t
          · go_wp2_with (go_at_call 181; refine (unhide CS).mono ?_; rintro e w' ⟨rfl, rfl⟩)
            go_ret
            exact ⟨ret_bool (ok_no2 (by rw [unhide hp, unhide hst, unhide HTT]; simp; omega)).symm, unhide HB⟩
          · go_wp2_with (go_at_call 181; refine (unhide CS).mono ?_; rintro e w' ⟨rfl, rfl⟩)
            go_roundw
            case rel => exact ⟨m + 1, by omega, by go_num, hide (by rw [unhide hp, unhide hst, unhide HTT]; simp; omega), trivial⟩
            case measure => simp [intOf]; omega
        · have hfin := hide (ok_yes (unhide ho) (show sumsOk l l = true by rw [unhide hp]; exact sumsOk_end (by have := unhide HL; omega)))
          have HLL := unhide HL
          have hfin2 := hide (show inB (len : Int) 1 20 = queuesOk l by rw [unhide hfin, HLL])
          clear HLL
          go_wp2_with (go_at_call 63; refine (l01In_any _ _ _ _).mono ?_; rintro e w' ⟨rfl, rfl⟩)
          go_ret
          exact ⟨ret_bool (unhide hfin2), unhide HB⟩
end Go.Proofs.YtfbphoppgmganaaGreat

/-
  Whether a queue is nobody's parent: what the model's Leaf answers; a walk over the dump.
-/
namespace Go.Proofs.YtfbphoppgmganaaGreat
open Go.RowKit
set_option linter.unusedVariables false

def noKid (nm : List UInt8) : List Q → Bool
  | [] => true
  | q :: t => decide (q.parent ≠ nm) && noKid nm t
def leaf (l : List Q) (nm : List UInt8) : Bool := noKid nm l && (queuesOk l && decide (0 ≤ place l nm))
theorem noKid_step {nm : List UInt8} {l : List Q} {k : Nat} (h : k < l.length) : noKid nm (l.drop k) = (decide (l[k].parent ≠ nm) && noKid nm (l.drop (k + 1))) := by
  rw [List.drop_eq_getElem_cons h, noKid]
theorem noKid_end {nm : List UInt8} {l : List Q} {k : Nat} (h : l.length ≤ k) : noKid nm (l.drop k) = true := by
  rw [List.drop_of_length_le h]; rfl

set_option maxRecDepth 100000 in
set_option maxHeartbeats 1000000 in
theorem specLeaf_any (ao : Option Addr) (len cap : Nat) (l : List Q) (nm : List UInt8) (w : World) (h : QRow w ao len l) (hl : len ≤ 1048576) (hn : ∀ q ∈ l, q.name.length ≤ 1048576) :
    Calls Tryz.prog 95 #[.slice ao len cap, .string (bs nm)] w fun e w' => e = .returned (.bool (leaf l nm)) ∧ Below w.heap.size w w' := by
  have HR := hide h
  have HL := hide h.1
  have HN := hide hn
  clear h hn
  go_enter Tryz.func95, Tryz.ntmps95
  go_wp2
  go_loopw [5] (fun i wr => ∃ k : Nat, k ≤ len ∧ i = .int .i64 k ∧ Hid (noKid nm l = noKid nm (l.drop k)) ∧ wr = w) (fun i _ => len - (intOf i).toNat)
  case atStart => exact ⟨0, Nat.zero_le _, rfl, hide (by simp), rfl⟩
  case round =>
    obtain ⟨k, hk, rfl, hp, rfl⟩ := hrel
    by_cases hlt : k < len
    · obtain ⟨b, off, rfl, hq⟩ := (unhide HR).at hlt
      have hkl : k < l.length := by have := unhide HL; omega
      have hst := hide (noKid_step (nm := nm) (l := l) (k := k) hkl)
      have hq0 := (hq hkl).2.1
      clear hq
      obtain ⟨s, hs⟩ : ∃ s, l[k].parent = s := ⟨_, rfl⟩
      rw [hs] at hq0 hst
      have hbe := bs_eq s nm
      clear hs hkl
      by_cases he : s = nm
      · have HE := hide he
        rw [decide_eq_true he] at hbe
        clear he
        go_wp2
        go_ret
        exact ⟨ret_bool (by rw [leaf, unhide hp, unhide hst]; simp [unhide HE]), Below.refl _ _⟩
      · have HE := hide he
        rw [decide_eq_false he] at hbe
        clear he
        go_wp2
        go_roundw
        case rel => exact ⟨k + 1, by omega, by go_num, hide (by rw [unhide hp, unhide hst]; simp [unhide HE]), trivial⟩
        case measure => simp [intOf]; omega
    · have hk2 := hide (show leaf l nm = (queuesOk l && decide (0 ≤ place l nm)) by rw [leaf, unhide hp, noKid_end (by have := unhide HL; omega)]; rfl)
      have CQ := hide (specQueuesOk_any ao len cap l wr (unhide HR) hl (unhide HN))
      obtain ⟨o, ho⟩ : ∃ o, queuesOk l = o := ⟨_, rfl⟩
      obtain ⟨p, hp2⟩ : ∃ p, place l nm = p := ⟨_, rfl⟩
      rw [ho] at CQ hk2
      have CP := hide (fun wx (hb : Below wr.heap.size wr wx) => by have := l03Place_any ao len cap l nm wx ((unhide HR).below hb) hl; rw [hp2] at this; exact this)
      rw [hp2] at hk2
      clear ho hp2 hp
      go_wp2_with fail
      refine (unhide CQ).mono ?_
      rintro e w1 ⟨rfl, hb⟩
      have HB := hide hb
      clear hb CQ
      cases o with
      | false =>
        go_wp2
        go_ret
        exact ⟨ret_bool (by rw [unhide hk2]; rfl), unhide HB⟩
      | true =>
        go_wp2_with fail
        refine (unhide CP _ (unhide HB)).mono ?_
        rintro e w2 ⟨rfl, rfl⟩
        by_cases h0 : 0 ≤ p
        · go_wp2
          go_ret
          exact ⟨ret_bool (by rw [unhide hk2]; simp [h0]), unhide HB⟩
        · go_wp2
          go_ret
          exact ⟨ret_bool (by rw [unhide hk2]; simp), unhide HB⟩
end Go.Proofs.YtfbphoppgmganaaGreat

/-
  Whether a leaf has more than is due, and what a leaf lacks: in plain words.
-/
namespace Go.Proofs.YtfbphoppgmganaaGreat
open Go.RowKit
set_option linter.unusedVariables false

def dueV (s : St) (x : List UInt8) : Int × Int := ofR s.qs x (totalV s).1 (totalV s).2 false
def overV (s : St) (nm : List UInt8) : Bool := leaf s.qs nm && !within (usedByV s nm).1 (usedByV s nm).2 (dueV s nm).1 (dueV s nm).2
theorem resOk_zero : resOk 0 0 = true := by decide
theorem sumFrom_ok : ∀ (l : List (Int × Int)) (x y : Int), resOk x y = true → resOk (sumFrom l x y).1 (sumFrom l x y).2.1 = true
  | [], x, y, h => h
  | r :: t, x, y, h => by
    rw [sumFrom]
    by_cases hb : bothOk 1 x y r.1 r.2 = true
    · rw [if_pos hb]
      refine sumFrom_ok t _ _ ?_
      simp only [bothOk, Bool.and_eq_true] at hb
      exact hb.2
    · rw [if_neg hb]; exact resOk_zero
theorem sumR_ok (l : List (Int × Int)) : resOk (sumR l).1 (sumR l).2.1 = true := sumFrom_ok l 0 0 resOk_zero
theorem used_ok (s : St) (nm : List UInt8) : resOk (usedByV s nm).1 (usedByV s nm).2 = true := sumR_ok _
theorem shares_ok (a b n : Int) : resOk (shareM a b n) (shareC a b n) = true := by
  by_cases h : shareOk a b n = true
  · have e1 : shareM a b n = a * n / 10000 := by rw [shareM, if_pos h]
    have e2 : shareC a b n = b * n / 10000 := by rw [shareC, if_pos h]
    rw [e1, e2]
    simp only [shareOk, resOk, inB, Bool.and_eq_true, decide_eq_true_eq] at h ⊢
    obtain ⟨⟨⟨h1, h2⟩, h3, h4⟩, h5, h6⟩ := h
    have := mul_bd h1 h2 h5 h6
    have := mul_bd h3 h4 h5 h6
    omega
  · have e1 : shareM a b n = 0 := by rw [shareM, if_neg h]
    have e2 : shareC a b n = 0 := by rw [shareC, if_neg h]
    rw [e1, e2]; exact resOk_zero
theorem ofP_ok (l : List Q) (most : Bool) {t : Int × Int} (h : resOk t.1 t.2 = true) : ∀ p : List (List UInt8), resOk (ofP l most t p).1 (ofP l most t p).2 = true
  | [] => h
  | [_] => h
  | n :: m :: r => shares_ok _ _ _
theorem ofR_ok (l : List Q) (nm : List UInt8) (a b : Int) (most : Bool) : resOk (ofR l nm a b most).1 (ofR l nm a b most).2 = true := by
  rw [ofR]
  split
  · exact resOk_zero
  · rename_i h
    refine ofP_ok l most ?_ _
    cases hr : resOk a b
    · exact absurd (.inr hr) h
    · rfl
theorem due_ok (s : St) (nm : List UInt8) : resOk (dueV s nm).1 (dueV s nm).2 = true := ofR_ok _ _ _ _ _
end Go.Proofs.YtfbphoppgmganaaGreat
