/-
  Several texts of this claim in one: FitsI, QueuesOkI, LoneI (pack.py put them together); each says in its own remark what is proved.
-/
import Derived.Test.YtcplnodfcchdhaaGreatPackP
import Derived.Test.YtcplnodfcchdhaaGreatPackN
import Derived.Deep.RegionWith
import Derived.Deep.RegionHeld3
import Derived.Test.YtcplnodfcchdhaaGreatPackO
/-
  One more queue behind a tree: what the program's pointsOk, dueOfKids and fits answer; walks over the dump.
-/
namespace Go.Proofs.YtcplnodfcchdhaaGreat
open Go.RowKit
set_option linter.unusedVariables false
def pointsOk (q : Q) : Bool := decide (0 ≤ q.due ∧ q.due ≤ q.most ∧ q.most ≤ 10000)
set_option maxRecDepth 100000 in
set_option maxHeartbeats 1000000 in
theorem pointsOk_any (q : Q) (w : World) :
    Calls Tryz.prog 119 #[qv q] w fun e w' => e = .returned (.bool (pointsOk q)) ∧ Below w.heap.size w w' := by
  obtain ⟨nm, pa, d, m⟩ := q
  by_cases h1 : 0 ≤ d
  · by_cases h2 : d ≤ m
    · by_cases h3 : m ≤ 10000
      · go_enter Tryz.func119, Tryz.ntmps119
        go_wp2
        go_ret
        exact ⟨ret_bool (by simp [pointsOk, h1, h2, h3]), below_al (Below.refl _ _) _⟩
      · go_enter Tryz.func119, Tryz.ntmps119
        go_wp2
        go_ret
        exact ⟨ret_bool (by simp [pointsOk]; omega), below_al (Below.refl _ _) _⟩
    · go_enter Tryz.func119, Tryz.ntmps119
      go_wp2
      go_ret
      exact ⟨ret_bool (by simp [pointsOk]; omega), below_al (Below.refl _ _) _⟩
  · go_enter Tryz.func119, Tryz.ntmps119
    go_wp2
    go_ret
    exact ⟨ret_bool (by simp [pointsOk]; omega), below_al (Below.refl _ _) _⟩

set_option maxRecDepth 100000 in
set_option maxHeartbeats 1000000 in
theorem dueOfKids_any (ao : Option Addr) (len cap : Nat) (l : List Q) (nm : List UInt8) (w : World) (h : QRow w ao len l) (hl : len ≤ 1048576) (hd : ∀ q ∈ l, 0 ≤ q.due ∧ q.due ≤ 10000) :
    Calls Tryz.prog 120 #[.slice ao len cap, .string (bs nm)] w fun e w' => e = .returned (.int .i64 (dueSum nm l)) ∧ Below w.heap.size w w' := by
  have HR := hide h
  have HL := hide h.1
  have HD := hide hd
  clear h hd
  go_enter Tryz.func120, Tryz.ntmps120
  go_wp2
  go_loopw [5, 7, 10] (fun s _ i wr => ∃ (k : Nat) (a : Int), k ≤ len ∧ i = .int .i64 k ∧ s = .int .i64 a ∧ 0 ≤ a ∧ a ≤ 10000 * k ∧ Hid (dueSum nm l = a + dueSum nm (l.drop k)) ∧ Hid (Below w.heap.size w wr)) (fun _ _ i _ => len - (intOf i).toNat)
  case atStart => exact ⟨0, 0, by omega, rfl, rfl, by omega, by omega, hide (by simp), hide (Below.refl _ _)⟩
  case round =>
    obtain ⟨k, a, hk, rfl, rfl, ha0, ha1, hp, HB⟩ := hrel
    by_cases hlt : k < len
    · obtain ⟨b, off, rfl, hq⟩ := ((unhide HR).below (unhide HB)).at hlt
      have hkl : k < l.length := by have := unhide HL; omega
      have hst := hide (dueSum_step (nm := nm) (l := l) (k := k) hkl)
      obtain ⟨c0, c1, c2, c3⟩ := hq hkl
      obtain ⟨d0, d1⟩ := unhide HD l[k] (List.getElem_mem _)
      clear hq
      obtain ⟨⟨qn, pa, d, mo⟩, hs⟩ : ∃ s, l[k] = s := ⟨_, rfl⟩
      rw [hs] at c0 c1 c2 c3 hst d0 d1
      simp only at c0 c1 c2 c3 d0 d1
      have hbe := bs_eq pa nm
      have HB2 := hide (below_al (unhide HB) (qobj ⟨qn, pa, d, mo⟩))
      clear hs hkl
      by_cases he : pa = nm
      · have HE := hide he
        rw [decide_eq_true he] at hbe
        clear he
        go_wp2
        go_roundw
        case rel => exact ⟨k + 1, a + d, by omega, by go_num, by go_num, by omega, by omega, hide (by have e := unhide hst; simp only at e; rw [unhide hp, e, if_pos (unhide HE)]; omega), HB2⟩
        case measure => simp [intOf]; omega
      · have HE := hide he
        rw [decide_eq_false he] at hbe
        clear he
        go_wp2
        go_roundw
        case rel => exact ⟨k + 1, a, by omega, by go_num, rfl, by omega, by omega, hide (by have e := unhide hst; simp only at e; rw [unhide hp, e, if_neg (unhide HE)]; omega), HB2⟩
        case measure => simp [intOf]; omega
    · go_wp2
      go_ret
      exact ⟨ret_int (by rw [unhide hp, dueSum_end (by have := unhide HL; omega)]; omega), unhide HB⟩

theorem dueSum_bound {nm : List UInt8} : ∀ {l : List Q}, (∀ q ∈ l, 0 ≤ q.due ∧ q.due ≤ 10000) → 0 ≤ dueSum nm l ∧ dueSum nm l ≤ 10000 * l.length
  | [], _ => by simp [dueSum]
  | x :: t, h => by
    have h1 := h x (by simp)
    have h2 := dueSum_bound (nm := nm) (l := t) (fun q hq => h q (by simp [hq]))
    rw [dueSum]
    simp only [List.length_cons]
    split <;> omega
theorem fits_no {l : List Q} {q : Q} (h : 20 ≤ l.length ∨ nameOk q.name = false ∨ 0 ≤ place l q.name ∨ pointsOk q = false) : fits l q = false := by
  cases e : fits l q with
  | false => rfl
  | true =>
    simp only [fits, Bool.and_eq_true, decide_eq_true_eq] at e
    simp only [pointsOk] at h
    obtain ⟨⟨⟨⟨a, b⟩, c⟩, d⟩, _⟩ := e
    rcases h with h | h | h | h
    · omega
    · rw [b] at h; cases h
    · omega
    · rw [decide_eq_false_iff_not] at h; exact absurd d h
theorem fits_first {l : List Q} {q : Q} (h0 : l.length < 20) (h1 : nameOk q.name = true) (h2 : place l q.name < 0) (h3 : pointsOk q = true) (h : l.length = 0) : fits l q = decide (q.parent = [] ∧ q.due = 10000 ∧ q.most = 10000) := by
  simp only [pointsOk] at h3
  rw [fits, h1, h3, decide_eq_true h0, decide_eq_true h2, if_pos h]; rfl
theorem fits_next {l : List Q} {q : Q} (h0 : l.length < 20) (h1 : nameOk q.name = true) (h2 : place l q.name < 0) (h3 : pointsOk q = true) (h : l.length ≠ 0) : fits l q = decide (0 ≤ place l q.parent ∧ dueSum q.parent l + q.due ≤ 10000) := by
  simp only [pointsOk] at h3
  rw [fits, h1, h3, decide_eq_true h0, decide_eq_true h2, if_neg h]; rfl

set_option maxRecDepth 100000 in
set_option maxHeartbeats 4000000 in
theorem fits_any (ao : Option Addr) (len cap : Nat) (l : List Q) (q : Q) (w : World) (h : QRow w ao len l) (hl : len ≤ 1048576) (hn : q.name.length ≤ 1048576) (hd : ∀ q ∈ l, 0 ≤ q.due ∧ q.due ≤ 10000) :
    Calls Tryz.prog 95 #[.slice ao len cap, qv q] w fun e w' => e = .returned (.bool (fits l q)) ∧ Below w.heap.size w w' := by
  have hb0 := below_al (Below.refl _ w) (qobj q)
  have HX := hide (QBox.new w q)
  have CN := hide (fun wx => by have := implNameOk_any (bs q.name) wx (by rw [bs_size]; exact hn); rw [show (bs q.name).data.toList = q.name by simp [bs]] at this; exact this)
  have CP := hide (fun wx (hb : Below w.heap.size w wx) (nm : List UInt8) => place_any ao len cap l nm wx (h.below hb) hl)
  have CK := hide (fun wx => pointsOk_any q wx)
  have CD := hide (fun wx (hb : Below w.heap.size w wx) => dueOfKids_any ao len cap l q.parent wx (h.below hb) hl hd)
  have HL := hide h.1
  have HB0 := hide hb0
  have HF0 := hide (@fits_no l q)
  have HF1 := hide (@fits_first l q)
  have HF2 := hide (@fits_next l q)
  have HS0 := hide (show 0 ≤ dueSum q.parent l ∧ dueSum q.parent l ≤ 10000 * l.length from dueSum_bound hd)
  clear h hn hd hb0
  obtain ⟨b1, g1⟩ : ∃ b, nameOk q.name = b := ⟨_, rfl⟩
  obtain ⟨p1, g2⟩ : ∃ p, place l q.name = p := ⟨_, rfl⟩
  obtain ⟨b2, g3⟩ : ∃ b, pointsOk q = b := ⟨_, rfl⟩
  obtain ⟨p2, g4⟩ : ∃ p, place l q.parent = p := ⟨_, rfl⟩
  obtain ⟨s, g5⟩ : ∃ s, dueSum q.parent l = s := ⟨_, rfl⟩
  obtain ⟨r, g6⟩ : ∃ r, fits l q = r := ⟨_, rfl⟩
  rw [g1] at CN HF0 HF1 HF2
  rw [g2] at HF0 HF1 HF2
  rw [g3] at CK HF0 HF1 HF2
  rw [g4] at HF2
  rw [g5] at CD HF2 HS0
  rw [g6] at HF0 HF1 HF2 ⊢
  have CP1 := hide (fun wx hb => by have := unhide CP wx hb q.name; rw [g2] at this; exact this)
  have CP2 := hide (fun wx hb => by have := unhide CP wx hb q.parent; rw [g4] at this; exact this)
  have hsb : 0 ≤ s ∧ s ≤ 10000 * 1048576 := by have := unhide HS0; have := unhide HL; omega
  have hdu : b2 = true → 0 ≤ q.due ∧ q.due ≤ q.most ∧ q.most ≤ 10000 := fun e => by rw [← g3, pointsOk, decide_eq_true_eq] at e; exact e
  have HPR := hide (show p2 = -1 ∨ 0 ≤ p2 by have := place_range l q.parent; rw [g4] at this; omega)
  clear g1 g2 g3 g4 g5 g6 CP HS0
  obtain ⟨nm, pa, d, m⟩ := q
  simp only at CN CP1 CP2 CD hdu HF1 HF2
  have k0 := (unhide HX).c0
  have k1 := (unhide HX).c1
  have k2 := (unhide HX).c2
  have k3 := (unhide HX).c3
  simp only [qobj] at k0 k1 k2 k3
  by_cases hA : 20 ≤ len
  · go_enter Tryz.func95, Tryz.ntmps95
    go_wp2
    go_ret
    exact ⟨ret_bool (unhide HF0 (.inl (by have := unhide HL; omega))).symm, unhide HB0⟩
  · cases b1 with
    | false =>
      go_enter Tryz.func95, Tryz.ntmps95
      go_wp2_with (go_at_call 106; refine (unhide CN _).mono ?_; rintro e w' ⟨rfl, rfl⟩)
      go_ret
      exact ⟨ret_bool (unhide HF0 (by simp)).symm, unhide HB0⟩
    | true =>
      go_enter Tryz.func95, Tryz.ntmps95
      go_wp2_with (go_at_call 106; refine (unhide CN _).mono ?_; rintro e w' ⟨rfl, rfl⟩)
      refine (unhide CP1 _ (unhide HB0)).mono ?_
      rintro e w1 ⟨rfl, hb1⟩
      have HB1 := hide (below_on (unhide HB0) hb1)
      have HX1 := hide ((unhide HX).below hb1)
      clear k0 k1 k2 k3 hb1 HX HB0 CP1
      have k0 := (unhide HX1).c0
      have k1 := (unhide HX1).c1
      have k2 := (unhide HX1).c2
      have k3 := (unhide HX1).c3
      simp only at k0 k1 k2 k3
      by_cases hp : 0 ≤ p1
      · go_wp2
        go_ret
        exact ⟨ret_bool (unhide HF0 (by simp [hp])).symm, unhide HB1⟩
      · go_wp2_with fail
        refine (unhide CK _).mono ?_
        rintro e w2 ⟨rfl, hb2⟩
        have HB2 := hide (below_on (unhide HB1) hb2)
        have HX2 := hide ((unhide HX1).below hb2)
        clear k0 k1 k2 k3 hb2 HX1 HB1 CK
        have k0 := (unhide HX2).c0
        have k1 := (unhide HX2).c1
        have k2 := (unhide HX2).c2
        have k3 := (unhide HX2).c3
        simp only at k0 k1 k2 k3
        cases b2 with
        | false =>
          go_wp2
          go_ret
          exact ⟨ret_bool (unhide HF0 (by simp)).symm, unhide HB2⟩
        | true =>
          obtain ⟨d0, d1, d2⟩ := hdu rfl
          clear hdu
          have hbe := bs_empty pa
          by_cases hz : len = 0
          · have z1 : ((len : Int) == 0) = true := by simp [hz]
            have HZ := hide (unhide HF1 (by have := unhide HL; omega) (by simp) (by omega) (by simp) (by have := unhide HL; omega))
            clear HF0 HF1 HF2 hz
            by_cases e1 : pa = []
            · have E1 := hide e1
              rw [decide_eq_true e1] at hbe
              clear e1
              by_cases e2 : d = 10000
              · have f2 : (d == 10000) = true := by simp [e2]
                have E2 := hide e2
                clear e2
                by_cases e3 : m = 10000
                · have f3 : (m == 10000) = true := by simp [e3]
                  have E3 := hide e3
                  clear e3
                  go_wp2
                  go_ret
                  exact ⟨ret_bool (by rw [unhide HZ]; simp [unhide E1, unhide E2, unhide E3]), unhide HB2⟩
                · have f3 : (m == 10000) = false := by simp [e3]
                  have E3 := hide e3
                  clear e3
                  go_wp2
                  go_ret
                  exact ⟨ret_bool (by rw [unhide HZ]; simp [unhide E1, unhide E2, unhide E3]), unhide HB2⟩
              · have f2 : (d == 10000) = false := by simp [e2]
                have E2 := hide e2
                clear e2
                go_wp2
                go_ret
                exact ⟨ret_bool (by rw [unhide HZ]; simp [unhide E1, unhide E2]), unhide HB2⟩
            · have E1 := hide e1
              rw [decide_eq_false e1] at hbe
              clear e1
              go_wp2
              go_ret
              exact ⟨ret_bool (by rw [unhide HZ]; simp [unhide E1]), unhide HB2⟩
          · have z1 : ((len : Int) == 0) = false := by simp [hz]
            have HZ := hide (unhide HF2 (by have := unhide HL; omega) (by simp) (by omega) (by simp) (by have := unhide HL; omega))
            have hwr : IntKind.i64.wrap (s + d) = s + d := by rw [IntKind.wrap_i64]; omega
            have A0 := hide (show QB w w.heap.size ⟨nm, pa, d, m⟩ w2 from ⟨unhide HX2, unhide HB2⟩)
            clear HF0 HF1 HF2 hbe
            by_cases hp2 : 0 ≤ p2
            · have R := QB.read w w.heap.size ⟨nm, pa, d, m⟩
              simp only at R
              clear k0 k1 k2 k3
              go_wp2_with fail
              go_region_held3 (fun wx => QB w w.heap.size ⟨nm, pa, d, m⟩ wx)
                (first | (with_reducible assumption) | exact (unhide A0).drew | exact QB.call (by assumption) (by assumption))
                (first
                | (go_at_call 118; refine (unhide CP2 _ (QB.call (w0 := w) (g := w.heap.size) (q := ⟨nm, pa, d, m⟩) (by assumption) (Below.refl _ _)).2).mono ?_; rintro e wt ⟨rfl, hb⟩; have SA := QB.call (w0 := w) (g := w.heap.size) (q := ⟨nm, pa, d, m⟩) (by assumption) hb)
                | (go_at_call 120; refine (unhide CD _ (QB.call (w0 := w) (g := w.heap.size) (q := ⟨nm, pa, d, m⟩) (by assumption) (Below.refl _ _)).2).mono ?_; rintro e wt2 ⟨rfl, hb⟩; have SB := QB.call (w0 := w) (g := w.heap.size) (q := ⟨nm, pa, d, m⟩) (by assumption) hb))
              all_goals
                have HB3 := hide SB.2
                clear SA SB R A0
                go_wp2
                go_ret
                exact ⟨ret_bool (by rw [unhide HZ]; simp [hp2]), unhide HB3⟩
            · have hpf : decide ((0 : Int) ≤ p2) = false := by simp; omega
              have HP2 := hide hp2
              clear hp2
              go_wp2_with fail
              first | (go_region_with (go_at_call 118; refine (unhide CP2 _ ?_).mono ?_; (exact (unhide HB2).drew); rintro e w3 ⟨rfl, hb⟩)) | fail
              all_goals
                have HB3 := hide (below_on (unhide HB2).drew hb)
                clear hb
                go_wp2
                go_ret
                exact ⟨ret_bool (by rw [unhide HZ, decide_eq_false (by have := unhide HP2; omega)]), unhide HB3⟩
end Go.Proofs.YtcplnodfcchdhaaGreat

/-
  Whether queues are a tree: what the program's QueuesOk answers; a walk over the dump.
-/
namespace Go.Proofs.YtcplnodfcchdhaaGreat
open Go.RowKit
set_option linter.unusedVariables false
theorem QRow.take {w : World} {ao : Option Addr} {len : Nat} {l : List Q} (h : QRow w ao len l) {k : Nat} (hk : k ≤ len) : QRow w ao k (l.take k) := by
  obtain ⟨h1, h2⟩ := h
  refine ⟨by simp; omega, ?_⟩
  rcases h2 with h2 | ⟨b, off, h3, h4⟩
  · exact .inl (by omega)
  · refine .inr ⟨b, off, h3, fun i hi => ?_⟩
    have : i < l.length := by simp at hi; omega
    rw [List.getElem_take]
    exact h4 i this
set_option maxRecDepth 100000 in
theorem cut_q (b off len cap k : Nat) (hk : k ≤ cap) (wx : World) : (Instr.slice 24 (.slice (some ⟨b, off, none⟩) len cap) none (some (.int .i64 (k : Int))) none).run Tryz.prog wx = .ok (.slice (some ⟨b, off, none⟩) k cap) wx := by
  rw [run_slice_h (P := Tryz.prog) (w := wx) 24 (some ⟨b, off, none⟩) len cap Tryz.underlying24 .i64 (k : Int) (by omega) (by omega)]
  rw [show (sizeOf (Tryz.prog.elem 24)).run Tryz.prog wx = .ok 4 wx from by kernel_rfl]
  simp [Result.andThen, sliced, Addr.add]

set_option maxRecDepth 100000 in
set_option maxHeartbeats 4000000 in
theorem implQueuesOk_any (ao : Option Addr) (len cap : Nat) (l : List Q) (w : World) (h : QRow w ao len l) (hl : len ≤ 1048576) (hn : ∀ q ∈ l, q.name.length ≤ 1048576) (hc : len ≤ cap) :
    Calls Tryz.prog 51 #[.slice ao len cap] w fun e w' => e = .returned (.bool (queuesOk l)) ∧ Below w.heap.size w w' := by
  have HR := hide h
  have HL := hide h.1
  have HN := hide hn
  have HQ := hide (queuesOk_okT l)
  clear h hn
  go_enter Tryz.func51, Tryz.ntmps51
  go_wp2
  go_loopw [3, 4, 7] (fun _ _ i wr => ∃ k : Nat, k ≤ len ∧ i = .int .i64 k ∧ Hid (okT (l.take k) = true) ∧ Hid (Below w.heap.size w wr)) (fun _ _ i _ => len - (intOf i).toNat)
  case atStart => exact ⟨0, Nat.zero_le _, rfl, hide (by rw [List.take_zero]; rfl), hide (Below.refl _ _)⟩
  case round =>
    obtain ⟨k, hk, rfl, HK, HB⟩ := hrel
    by_cases hlt : k < len
    · have HR2 := hide ((unhide HR).below (unhide HB))
      obtain ⟨b, off, rfl, hq⟩ := (unhide HR2).at hlt
      have hkl : k < l.length := by have := unhide HL; omega
      have hst := hide (okT_take_succ (l := l) (k := k) hkl)
      have hbad := hide (@okT_take_false l (k + 1))
      obtain ⟨c0, c1, c2, c3⟩ := hq hkl
      have hz := unhide HN l[k] (List.getElem_mem _)
      clear hq
      obtain ⟨⟨nm, pa, du, mo⟩, hs⟩ : ∃ s, l[k] = s := ⟨_, rfl⟩
      rw [hs] at c0 c1 c2 c3 hst hz
      simp only at c0 c1 c2 c3
      have HA := hide (QBox.new wr ⟨nm, pa, du, mo⟩)
      have hb1 := below_al (unhide HB) (qobj ⟨nm, pa, du, mo⟩)
      have CF := hide (fun wx (hb : Below w.heap.size w wx) => fits_any (some ⟨b, off, none⟩) k cap (l.take k) ⟨nm, pa, du, mo⟩ wx (((unhide HR).below hb).take hk) (by omega) hz (okT_due (unhide HK)))
      obtain ⟨f, hf⟩ : ∃ f, fits (l.take k) ⟨nm, pa, du, mo⟩ = f := ⟨_, rfl⟩
      rw [hf] at CF hst
      have hcut := cut_q b off len cap k (by omega)
      have HB1 := hide hb1
      have k0 := (unhide HA).c0
      have k1 := (unhide HA).c1
      have k2 := (unhide HA).c2
      have k3 := (unhide HA).c3
      simp only at k0 k1 k2 k3
      have hkc : (k : Int) ≤ cap := by omega
      clear hs hkl hz hf HR2 hb1
      cases f with
      | false =>
        go_wp2_with fail
        go_region_with (go_at_call 95; refine (unhide CF _ ?_).mono ?_; (exact (unhide HB1).drew); rintro e w2 ⟨rfl, hb⟩)
        all_goals
          have HB2 := hide (below_on (unhide HB1).drew hb)
          clear hb
          go_wp2
          go_ret
          exact ⟨ret_bool (by rw [unhide HQ, unhide hbad (by rw [unhide hst]; simp)]; rfl), unhide HB2⟩
      | true =>
        go_wp2_with fail
        go_region_with (go_at_call 95; refine (unhide CF _ ?_).mono ?_; (exact (unhide HB1).drew); rintro e w2 ⟨rfl, hb⟩)
        all_goals
          have HB2 := hide (below_on (unhide HB1).drew hb)
          clear hb
          go_wp2
          go_roundw
          case rel => exact ⟨k + 1, by omega, by go_num, hide (by rw [unhide hst, unhide HK]; rfl), HB2⟩
          case measure => simp [intOf]; omega
    · have hfin := hide (show queuesOk l = decide (0 < len) by
        have e : k = l.length := by have := unhide HL; omega
        have ho := unhide HK
        rw [e, List.take_length] at ho
        rw [unhide HQ, ho, unhide HL]; rfl)
      by_cases h0 : 0 < len
      · go_wp2
        go_ret
        exact ⟨ret_bool (by rw [unhide hfin]; simp [h0]), unhide HB⟩
      · go_wp2
        go_ret
        exact ⟨ret_bool (by rw [unhide hfin]; simp [h0]), unhide HB⟩
end Go.Proofs.YtcplnodfcchdhaaGreat

/-
  Whether a queue is nobody's parent: what the program's Leaf answers; walks over the dump.
-/
namespace Go.Proofs.YtcplnodfcchdhaaGreat
open Go.RowKit
set_option linter.unusedVariables false
theorem noKid_any (nm : List UInt8) : ∀ l : List Q, noKid nm l = !(l.any (fun q => decide (q.parent = nm)))
  | [] => rfl
  | q :: t => by rw [noKid, noKid_any nm t, List.any_cons]; by_cases h : q.parent = nm <;> simp [h]

set_option maxRecDepth 100000 in
set_option maxHeartbeats 1000000 in
theorem kidFn_any (B : Nat) (nm : List UInt8) (q : Q) (w : World) (hc : w.cell? ⟨B, 0, none⟩ = some (.string (bs nm))) :
    Calls Tryz.prog 126 #[qv q, .pointer (some ⟨B, 0, none⟩)] w fun e w' => e = .returned (.bool (decide (q.parent = nm))) ∧ Below w.heap.size w w' := by
  have hlt := cell_lt hc
  have hc2 : (w.alloc (.cells #[.string (bs q.name), .string (bs q.parent), .int .i64 q.due, .int .i64 q.most] 59)).cell? ⟨B, 0, none⟩ = some (.string (bs nm)) := by rw [World.cell?_alloc_lt _ _ ⟨B, 0, none⟩ hlt]; exact hc
  have hbe := bs_eq q.parent nm
  clear hc hlt
  go_enter Tryz.func126, Tryz.ntmps126
  go_wp2
  go_ret
  exact ⟨rfl, below_al (Below.refl _ _) _⟩

set_option maxRecDepth 100000 in
set_option maxHeartbeats 1000000 in
theorem containsFunc_any (g : Nat) (lb : Array Value) (eg : ∀ args w, (callFunc g args).run Tryz.prog w = .ok (.enter g args) w) (p : Q → Bool) (ao : Option Addr) (len cap : Nat) (l : List Q) (w : World) (h : QRow w ao len l) (hl : len ≤ 1048576)
    (hp : ∀ wx q, Below w.heap.size w wx → Calls Tryz.prog g (#[qv q] ++ lb) wx fun e w' => e = .returned (.bool (p q)) ∧ Below wx.heap.size wx w') :
    Calls Tryz.prog 125 #[.slice ao len cap, .func (.func g) #[] lb] w fun e w' => e = .returned (.bool (l.any p)) ∧ Below w.heap.size w w' := by
  have C := hide (indexFunc_any g lb eg p ao len cap l w h hl hp)
  have HS := hide (idx_has p l 0)
  obtain ⟨i, hi⟩ : ∃ i, idxFrom p l 0 = i := ⟨_, rfl⟩
  obtain ⟨b, hb⟩ : ∃ b, l.any p = b := ⟨_, rfl⟩
  rw [hi] at C HS
  rw [hb] at HS ⊢
  clear h hp hi hb
  go_enter Tryz.func125, Tryz.ntmps125
  go_wp2_with fail
  refine (unhide C).mono ?_
  rintro e w1 ⟨rfl, hb⟩
  have HB := hide hb
  clear hb
  by_cases h0 : 0 ≤ i
  · go_wp2
    go_ret
    exact ⟨ret_bool (by first | exact unhide HS | (rw [← unhide HS]; simp [h0])), unhide HB⟩
  · go_wp2
    go_ret
    exact ⟨ret_bool (by first | exact unhide HS | (rw [← unhide HS]; simp [h0])), unhide HB⟩

/-- whether a queue is there and nobody's parent -/
def lone (l : List Q) (nm : List UInt8) : Bool := !(l.any (fun q => decide (q.parent = nm))) && decide (0 ≤ place l nm)
theorem leaf_lone (l : List Q) (nm : List UInt8) : leaf l nm = (queuesOk l && lone l nm) := by
  rw [leaf, noKid_any, lone]
  cases queuesOk l <;> cases l.any (fun q => decide (q.parent = nm)) <;> simp

set_option maxRecDepth 100000 in
set_option maxHeartbeats 1000000 in
theorem lone_any (ao : Option Addr) (len cap : Nat) (l : List Q) (nm : List UInt8) (w : World) (h : QRow w ao len l) (hl : len ≤ 1048576) :
    Calls Tryz.prog 104 #[.slice ao len cap, .string (bs nm)] w fun e w' => e = .returned (.bool (lone l nm)) ∧ Below w.heap.size w w' := by
  have hmf : ∀ (fn : Fn) (first cap : Array Value) (w : World), (Instr.makeFunc fn first cap).run Tryz.prog w = .ok (.func fn first cap) w := fun _ _ _ _ => rfl
  have hb0 := below_al (Below.refl _ w) (.cells #[.string (bs nm)] 9)
  have hcell : (w.alloc (.cells #[.string (bs nm)] 9)).cell? ⟨w.heap.size, 0, none⟩ = some (.string (bs nm)) := by simp
  have CP := hide (fun wx (hb : Below w.heap.size w wx) => place_any ao len cap l nm wx (h.below hb) hl)
  have CC := hide (fun wx (hb : Below w.heap.size w wx) (hx : wx.cell? ⟨w.heap.size, 0, none⟩ = some (.string (bs nm))) => containsFunc_any 126 #[.pointer (some ⟨w.heap.size, 0, none⟩)] (enters_of Tryz.func126 (by kernel_rfl) rfl) (fun q => decide (q.parent = nm)) ao len cap l wx (h.below hb) hl
    (fun wy q hy => kidFn_any w.heap.size nm q wy ((hy.cell (p := ⟨w.heap.size, 0, none⟩) (cell_lt hx)).trans hx)))
  have HF := hide (show lone l nm = (!(l.any (fun q => decide (q.parent = nm))) && decide (0 ≤ place l nm)) from rfl)
  obtain ⟨p, hp⟩ : ∃ p, place l nm = p := ⟨_, rfl⟩
  obtain ⟨k, hk⟩ : ∃ k, l.any (fun q => decide (q.parent = nm)) = k := ⟨_, rfl⟩
  obtain ⟨r, hr⟩ : ∃ r, lone l nm = r := ⟨_, rfl⟩
  rw [hp] at CP HF
  rw [hk] at CC HF
  rw [hr] at HF ⊢
  have HB0 := hide hb0
  have HC := hide hcell
  clear h hb0 hp hk hr hcell
  go_enter Tryz.func104, Tryz.ntmps104
  go_wp2_with fail
  refine (unhide CP _ (unhide HB0)).mono ?_
  rintro e w2 ⟨rfl, hb⟩
  have HB2 := hide (below_on (unhide HB0) hb)
  have HC2 := hide ((hb.cell (p := ⟨w.heap.size, 0, none⟩) (cell_lt (unhide HC))).trans (unhide HC))
  clear hb HC HB0 CP
  by_cases h0 : 0 ≤ p
  · go_wp2_with fail
    refine (unhide CC _ (unhide HB2) (unhide HC2)).mono ?_
    rintro e w3 ⟨rfl, hb⟩
    have HB3 := hide (below_on (unhide HB2) hb)
    clear hb
    go_wp2
    go_ret
    exact ⟨ret_bool (by rw [unhide HF]; simp [h0]), unhide HB3⟩
  · go_wp2
    go_ret
    exact ⟨ret_bool (by rw [unhide HF]; simp [h0]), unhide HB2⟩
end Go.Proofs.YtcplnodfcchdhaaGreat
