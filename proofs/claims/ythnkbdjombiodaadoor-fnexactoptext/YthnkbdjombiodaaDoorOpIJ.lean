/-
  The words of an event that is a join: what the program's method answers; a walk over the dump.
-/
import Derived.Test.YthnkbdjombiodaaDoorOpIA
import Derived.Test.YthnkbdjombiodaaDoorOpSJ
namespace Go.Proofs.YthnkbdjombiodaaDoor
open Go.RowKit
set_option linter.unusedVariables false
set_option linter.unusedSimpArgs false

theorem con_eqW (q : Con) : bs (Lib.itoa q.id) ++ ⟨#[58]⟩ ++ bs (Lib.itoa q.app) ++ ⟨#[58]⟩ ++ bs (resL q.mem q.cpu) = bs (conL q) := by
  show bs (Lib.itoa q.id) ++ bs [58] ++ bs (Lib.itoa q.app) ++ bs [58] ++ bs (resL q.mem q.cpu) = _
  rw [bs_app, bs_app, bs_app, bs_app]; simp [conL]
/-- a container's variable stands; nothing of w has turned -/
def CBx (w : World) (k : Nat) (arr : Array Value) (wx : World) : Prop := Blk wx k arr 57 ∧ Below w.heap.size w wx
theorem CBx.call {w w1 w2 : World} {k : Nat} {arr : Array Value} (h : CBx w k arr w1) (hb : Below w1.heap.size w1 w2) : CBx w k arr w2 := ⟨h.1.below hb, below_on h.2 hb⟩
theorem CBx.drew {w w1 : World} {k : Nat} {arr : Array Value} (h : CBx w k arr w1) : CBx w k arr w1.drew := h.call (Below.refl _ _).drew
theorem CBx.al {w w1 : World} {k : Nat} {arr : Array Value} (h : CBx w k arr w1) (o : Obj) : CBx w k arr (w1.alloc o) := h.call (below_al (Below.refl _ _) o)

set_option maxRecDepth 100000 in
set_option maxHeartbeats 4000000 in
theorem joinWords_any (node : List UInt8) (mem cpu : Int) (ao : Option Addr) (n c : Nat) (conts : List Con) (w : World) (hr : ConRow w ao n conts) (hn : n ≤ 1048576) (h1 : -9223372036854775808 ≤ mem ∧ mem ≤ 9223372036854775807) (h2 : -9223372036854775808 ≤ cpu ∧ cpu ≤ 9223372036854775807) (hB : ∀ q ∈ conts, ConB q) (htab : Lib.TabIs Tryd.prog w "internal/strconv.uint64pow10" .u64 Lib.pow10Tab) :
    Calls Tryd.prog 59 #[.agg #[.string (bs node), .int .i64 mem, .int .i64 cpu, .slice ao n c]] w fun e w' => WAns w ([[106, 111, 105, 110], node, resL mem cpu] ++ conts.map conL) e w' := by
  have A0 := hide (EBx.new w 110 #[.string (bs node), .int .i64 mem, .int .i64 cpu, .slice ao n c])
  have R : ∀ wx, EBx w 110 #[.string (bs node), .int .i64 mem, .int .i64 cpu, .slice ao n c] wx → wx.cell? ⟨w.heap.size, 0, none⟩ = some (.string (bs node)) ∧ wx.cell? ⟨w.heap.size, 1, none⟩ = some (.int .i64 mem) ∧ wx.cell? ⟨w.heap.size, 2, none⟩ = some (.int .i64 cpu) :=
    fun wx h => ⟨by simpa using h.1.at 0, by simpa using h.1.at 1, by simpa using h.1.at 2⟩
  have D2 := hide (fun wx (hb : Below w.heap.size w wx) => by have := implResText_any mem cpu wx h1.1 h1.2 h2.1 h2.2 (tab_on htab hb); rw [resText_bs] at this; exact this)
  have HR := hide hr
  have HL := hide hr.1
  have HTAB := hide htab
  have HCB := hide hB
  obtain ⟨full, hfull⟩ : ∃ l, [[106, 111, 105, 110], node, resL mem cpu] ++ conts.map conL = l := ⟨_, rfl⟩
  have HF := hide (show [[106, 111, 105, 110], node, resL mem cpu] ++ (conts.take n).map conL = full by rw [hr.1, List.take_length]; exact hfull)
  rw [hfull]
  clear htab h1 h2 hr hB hfull
  go_enter Tryd.func59, Tryd.ntmps59
  go_wp2_with fail
  go_region_held3 (fun wx => EBx w 110 #[.string (bs node), .int .i64 mem, .int .i64 cpu, .slice ao n c] wx)
    (first | (with_reducible assumption) | exact (unhide A0).drew | exact EBx.call (by assumption) (by assumption) | exact EBx.al (by assumption) _ | exact EBx.drew (EBx.al (by assumption) _))
    (first
    | (go_at_call 68; refine (unhide D2 _ (EBx.call (w := w) (t := 110) (arr := #[.string (bs node), .int .i64 mem, .int .i64 cpu, .slice ao n c]) (by assumption) (Below.refl _ _)).2).mono ?_; rintro e wt ⟨rfl, hb⟩; have SA := EBx.call (w := w) (t := 110) (arr := #[.string (bs node), .int .i64 mem, .int .i64 cpu, .slice ao n c]) (by assumption) hb))
  have HE := hide (SA.al (.cells #[.string ⟨#[106, 111, 105, 110]⟩, .string (bs node), .string (bs (resL mem cpu))] 9))
  have HT := hide (show Texts w.heap.size (wt.alloc (.cells #[.string ⟨#[106, 111, 105, 110]⟩, .string (bs node), .string (bs (resL mem cpu))] 9)) (.slice (some ⟨wt.heap.size, 0, none⟩) 3 3) [[106, 111, 105, 110], node, resL mem cpu] from texts_made w.heap.size wt SA.2.size [[106, 111, 105, 110], node, resL mem cpu] (by simp))
  clear SA R A0 D2
  generalize (wt.alloc (.cells #[.string ⟨#[106, 111, 105, 110]⟩, .string (bs node), .string (bs (resL mem cpu))] 9)) = w3 at HE HT ⊢
  have k3 := (unhide HE).1.at 3
  simp at k3
  go_wp2
  go_loopw [3, 5, 15] (fun v _ i wr => ∃ k : Nat, k ≤ n ∧ i = .int .i64 k ∧ Hid (Texts w.heap.size wr v ([[106, 111, 105, 110], node, resL mem cpu] ++ (conts.take k).map conL)) ∧ Hid (Below w.heap.size w wr)) (fun _ _ i _ => n - (intOf i).toNat)
  case atStart => exact ⟨0, Nat.zero_le _, rfl, hide (by rw [List.take_zero]; exact unhide HT), hide (unhide HE).2⟩
  case round =>
    obtain ⟨k, hk, rfl, HV, HB⟩ := hrel
    clear HT HE k3
    by_cases hlt : k < n
    · obtain ⟨b, off, rfl, hq⟩ := ((unhide HR).below (unhide HB)).at hlt
      have hkl : k < conts.length := by have := unhide HL; omega
      have hcb := unhide HCB conts[k] (List.getElem_mem _)
      have hst : (conts.take (k + 1)).map conL = (conts.take k).map conL ++ [conL conts[k]] := by rw [List.take_succ_eq_append_getElem hkl, List.map_append]; rfl
      have hpl : ([[106, 111, 105, 110], node, resL mem cpu] ++ (conts.take k).map conL).length ≤ 2097152 := by simp; omega
      obtain ⟨c0, c1, c2, c3, c4⟩ := hq hkl
      obtain ⟨⟨qi, qa, qn, qm, qc⟩, hs⟩ : ∃ s, conts[k] = s := ⟨_, rfl⟩
      rw [hs] at c0 c1 c2 c3 c4 hcb hst
      have heq := con_eqW ⟨qi, qa, qn, qm, qc⟩
      obtain ⟨ps, hps⟩ : ∃ ps, [[106, 111, 105, 110], node, resL mem cpu] ++ (conts.take k).map conL = ps := ⟨_, rfl⟩
      have HST := hide (show [[106, 111, 105, 110], node, resL mem cpu] ++ (conts.take (k + 1)).map conL = ps ++ [conL ⟨qi, qa, qn, qm, qc⟩] by rw [hst, ← List.append_assoc, hps])
      rw [hps] at hpl HV
      simp only at c0 c1 c2 c3 c4 heq
      have E1 := hide (fun wx (hb : Below w.heap.size w wx) => implDecText_any qi wx hcb.1.1 hcb.1.2 (tab_on (unhide HTAB) hb))
      have E2 := hide (fun wx (hb : Below w.heap.size w wx) => implDecText_any qa wx hcb.2.1.1 hcb.2.1.2 (tab_on (unhide HTAB) hb))
      have E3 := hide (fun wx (hb : Below w.heap.size w wx) => by have := implResText_any qm qc wx hcb.2.2.1.1 hcb.2.2.1.2 hcb.2.2.2.1 hcb.2.2.2.2 (tab_on (unhide HTAB) hb); rw [resText_bs] at this; exact this)
      have y1 : (bs (Lib.itoa qi)).size ≤ 21 := by rw [bs_size]; exact Lib.itoa_length_le qi hcb.1.1 hcb.1.2
      have y2 : (bs (Lib.itoa qa)).size ≤ 21 := by rw [bs_size]; exact Lib.itoa_length_le qa hcb.2.1.1 hcb.2.1.2
      have y3 : (bs (resL qm qc)).size ≤ 43 := by rw [bs_size]; exact resL_len qm qc hcb.2.2.1 hcb.2.2.2
      have S0 := hide (show CBx w wr.heap.size #[.int .i64 qi, .int .i64 qa, .string (bs qn), .int .i64 qm, .int .i64 qc] (wr.alloc (.cells #[.int .i64 qi, .int .i64 qa, .string (bs qn), .int .i64 qm, .int .i64 qc] 57)) from ⟨blk_new wr _ _, below_al (unhide HB) _⟩)
      have T0 := (unhide HV).below (below_al (Below.refl _ wr) (.cells #[.int .i64 qi, .int .i64 qa, .string (bs qn), .int .i64 qm, .int .i64 qc] 57))
      have T1 := T0.below (Below.refl _ _).drew
      have R : ∀ wx, CBx w wr.heap.size #[.int .i64 qi, .int .i64 qa, .string (bs qn), .int .i64 qm, .int .i64 qc] wx → wx.cell? ⟨wr.heap.size, 0, none⟩ = some (.int .i64 qi) ∧ wx.cell? ⟨wr.heap.size, 1, none⟩ = some (.int .i64 qa) ∧ wx.cell? ⟨wr.heap.size, 3, none⟩ = some (.int .i64 qm) ∧ wx.cell? ⟨wr.heap.size, 4, none⟩ = some (.int .i64 qc) :=
        fun wx h => ⟨by simpa using h.1.at 0, by simpa using h.1.at 1, by simpa using h.1.at 3, by simpa using h.1.at 4⟩
      have WS := hide (fun (wx : World) (h : Texts w.heap.size wx u3 ps) (hb : w.heap.size ≤ wx.heap.size) => words_step h hpl hb (conL ⟨qi, qa, qn, qm, qc⟩))
      rw [← heq] at WS
      clear hq hkl hst hcb hs hps HV
      obtain ⟨s1, e1⟩ : ∃ s, bs (Lib.itoa qi) = s := ⟨_, rfl⟩
      obtain ⟨s3, e3⟩ : ∃ s, bs (Lib.itoa qa) = s := ⟨_, rfl⟩
      obtain ⟨s4, e4⟩ : ∃ s, bs (resL qm qc) = s := ⟨_, rfl⟩
      rw [e1, e3, e4] at WS
      rw [e1] at y1 E1
      rw [e3] at y2 E2
      rw [e4] at y3 E3
      have m1 : ¬ 9223372036854775807 < s1.size + 1 := by omega
      have m2 : ¬ 9223372036854775807 < s1.size + 1 + s3.size := by omega
      have m3 : ¬ 9223372036854775807 < s1.size + 1 + s3.size + 1 := by omega
      have m4 : ¬ 9223372036854775807 < s1.size + 1 + s3.size + 1 + s4.size := by omega
      clear heq e1 e3 e4
      have k0 : (0 : Int) ≤ k := by omega
      have k1 : (k : Int) < n := by omega
      go_wp2_with fail
      go_region_held3 (fun wx => CBx w wr.heap.size #[.int .i64 qi, .int .i64 qa, .string (bs qn), .int .i64 qm, .int .i64 qc] wx)
        (first | (with_reducible assumption) | exact (unhide S0).drew | exact CBx.call (by assumption) (by assumption) | exact CBx.al (by assumption) _ | exact CBx.drew (CBx.al (by assumption) _))
        (first
        | (go_at_call_of 20 qi; refine (unhide E1 _ (CBx.call (w := w) (k := wr.heap.size) (arr := #[.int .i64 qi, .int .i64 qa, .string (bs qn), .int .i64 qm, .int .i64 qc]) (by assumption) (Below.refl _ _)).2).mono ?_; rintro e wt ⟨rfl, hb⟩; have SA := CBx.call (w := w) (k := wr.heap.size) (arr := #[.int .i64 qi, .int .i64 qa, .string (bs qn), .int .i64 qm, .int .i64 qc]) (by assumption) hb; have TA := Texts.below (B := w.heap.size) (v := u3) (ps := ps) (by assumption) hb)
        | (go_at_call_of 20 qa; refine (unhide E2 _ (CBx.call (w := w) (k := wr.heap.size) (arr := #[.int .i64 qi, .int .i64 qa, .string (bs qn), .int .i64 qm, .int .i64 qc]) (by assumption) (Below.refl _ _)).2).mono ?_; rintro e wt ⟨rfl, hb⟩; have SA := CBx.call (w := w) (k := wr.heap.size) (arr := #[.int .i64 qi, .int .i64 qa, .string (bs qn), .int .i64 qm, .int .i64 qc]) (by assumption) hb; have TA := Texts.below (B := w.heap.size) (v := u3) (ps := ps) (by assumption) hb)
        | (go_at_call 68; refine (unhide E3 _ (CBx.call (w := w) (k := wr.heap.size) (arr := #[.int .i64 qi, .int .i64 qa, .string (bs qn), .int .i64 qm, .int .i64 qc]) (by assumption) (Below.refl _ _)).2).mono ?_; rintro e wt ⟨rfl, hb⟩; have SA := CBx.call (w := w) (k := wr.heap.size) (arr := #[.int .i64 qi, .int .i64 qa, .string (bs qn), .int .i64 qm, .int .i64 qc]) (by assumption) hb; have TA := Texts.below (B := w.heap.size) (v := u3) (ps := ps) (by assumption) hb; obtain ⟨g, cp, w4, hrun, HW⟩ := unhide WS _ TA SA.2.size; simp [go_sem] at hrun; have SB : CBx w wr.heap.size #[.int .i64 qi, .int .i64 qa, .string (bs qn), .int .i64 qm, .int .i64 qc] w4 := ⟨(unhide HW).2.2 _ _ _ SA.1 (by decide), SA.2.trans (unhide HW).2.1⟩))
      have HX := hide (show Texts w.heap.size w4 (.slice (some ⟨g, 0, none⟩) (ps.length + 1) cp) ([[106, 111, 105, 110], node, resL mem cpu] ++ (conts.take (k + 1)).map conL) by rw [unhide HST]; exact (unhide HW).1)
      have HY := hide SB.2
      clear SB SA TA hrun HW R WS E1 E2 E3 c0 c1 c2 c3 c4 T0 T1 S0 HST
      go_wp2
      go_roundw
      case rel => exact ⟨k + 1, by omega, by go_num, HX, HY⟩
      case measure => simp [intOf]; omega
    · obtain rfl : k = n := by omega
      have HX := hide (show Texts w.heap.size wr u3 full by have := unhide HV; rw [unhide HF] at this; exact this)
      clear HV HF
      go_wp2
      go_ret
      exact ⟨u3, rfl, unhide HX, unhide HB⟩
end Go.Proofs.YthnkbdjombiodaaDoor
