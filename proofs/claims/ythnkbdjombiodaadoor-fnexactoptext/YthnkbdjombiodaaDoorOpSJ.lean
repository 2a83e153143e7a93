/-
  The text of an event that is a join: what the model's OpText answers; a walk over the dump.
-/
import Derived.Test.YthnkbdjombiodaaDoorOpS
namespace Go.Proofs.YthnkbdjombiodaaDoor
open Go.RowKit
set_option linter.unusedVariables false
set_option linter.unusedSimpArgs false

/-- the words of a join up to the first k containers, as one text -/
def joinL (nd : List UInt8) (m c : Int) (l : List Con) (k : Nat) : List UInt8 := Lib.join ([[106, 111, 105, 110], nd, resL m c] ++ (l.take k).map conL) [32]
theorem joinL_step (nd : List UInt8) (m c : Int) (l : List Con) (k : Nat) (h : k < l.length) : joinL nd m c l (k + 1) = joinL nd m c l k ++ (32 :: conL l[k]) := by
  unfold joinL
  rw [List.take_succ_eq_append_getElem h, List.map_append, ← List.append_assoc]
  exact join_snoc _ _ (by simp)
theorem joinL_all (o : Opv) (h : o.kind = 4) : opL o = joinL o.node o.mem o.cpu o.conts o.conts.length := by
  unfold opL opWords joinL
  rw [h, List.take_length]
  simp
theorem joinL_len (nd : List UInt8) (m c : Int) (l : List Con) (k : Nat) (hn : nd.length ≤ 1048576) (hm : -9223372036854775808 ≤ m ∧ m ≤ 9223372036854775807) (hc : -9223372036854775808 ≤ c ∧ c ≤ 9223372036854775807) (hl : l.length ≤ 1048576) (hb : ∀ q ∈ l, ConB q) : (joinL nd m c l k).length ≤ 1048700 + 91 * 1048576 := by
  have h1 := resL_len m c hm hc
  have h2 := lens_cons_len (l.take k) (fun q hq => hb q (List.mem_of_mem_take hq))
  have h3 : (l.take k).length ≤ 1048576 := by simp; omega
  unfold joinL
  rw [List.cons_append, Lib.join_length]
  have e : Lib.lens ([106, 111, 105, 110] :: ([nd, resL m c] ++ (l.take k).map conL)) = 4 + (nd.length + ((resL m c).length + Lib.lens ((l.take k).map conL))) := by simp [Lib.lens]
  rw [e]
  simp only [List.length_append, List.length_map, List.length_cons, List.length_nil]
  omega
theorem join_eq0 (nd : List UInt8) (m c : Int) (l : List Con) : bs [106, 111, 105, 110, 32] ++ bs nd ++ bs [32] ++ resText m c = bs (joinL nd m c l 0) := by
  rw [resText_bs, bs_app, bs_app, bs_app]; simp [joinL, Lib.join_cons, Lib.joinTail]
theorem join_eqS (t : List UInt8) (q : Con) : bs t ++ bs [32] ++ bs (Lib.itoa q.id) ++ bs [58] ++ bs (Lib.itoa q.app) ++ bs [58] ++ resText q.mem q.cpu = bs (t ++ (32 :: conL q)) := by
  rw [resText_bs, bs_app, bs_app, bs_app, bs_app, bs_app, bs_app]; simp [conL]
/-- the event's block stands, and one container; nothing below has turned -/
def OBC (w : World) (o : Opv) (ao : Option Addr) (n c b p : Nat) (q : Con) (wx : World) : Prop := OBx w o ao n c wx ∧ ConAt wx b p q
theorem OBC.call {w w1 w2 : World} {o : Opv} {ao : Option Addr} {n c b p : Nat} {q : Con} (h : OBC w o ao n c b p q w1) (hb : Below w1.heap.size w1 w2) : OBC w o ao n c b p q w2 := ⟨h.1.call hb, h.2.below hb⟩
theorem OBC.drew {w w1 : World} {o : Opv} {ao : Option Addr} {n c b p : Nat} {q : Con} (h : OBC w o ao n c b p q w1) : OBC w o ao n c b p q w1.drew := h.call (Below.refl _ _).drew
theorem OBC.read (w : World) (o : Opv) (ao : Option Addr) (n c b p : Nat) (q : Con) : ∀ wx, OBC w o ao n c b p q wx → wx.cell? ⟨w.heap.size, 12, none⟩ = some (.slice ao n c) ∧ wx.cell? ⟨b, p, none⟩ = some (.int .i64 q.id) ∧ wx.cell? ⟨b, p + 1, none⟩ = some (.int .i64 q.app) ∧ wx.cell? ⟨b, p + 3, none⟩ = some (.int .i64 q.mem) ∧ wx.cell? ⟨b, p + 4, none⟩ = some (.int .i64 q.cpu) :=
  fun wx h => ⟨by simpa using h.1.1.at 12, h.2.1, h.2.2.1, h.2.2.2.2.1, h.2.2.2.2.2⟩

set_option maxRecDepth 100000 in
set_option maxHeartbeats 4000000 in
theorem specOp4_any (o : Opv) (ao : Option Addr) (n c : Nat) (w : World) (hk : o.kind = 4) (hf : FitOp o) (hB : OpB o) (hr : ConRow w ao n o.conts) :
    Calls Tryd.prog 6 #[opv o ao n c] w fun e w' => e = .returned (.string (bs (opL o))) ∧ Below w.heap.size w w' := by
  have A0 := hide (OBx.new w o ao n c)
  rw [joinL_all o hk]
  obtain ⟨kind, queue, app, ⟨am, ac, an, ad, ai⟩, cont, node, mem, cpu, conts⟩ := o
  simp only at hk hr ⊢
  subst hk
  have HR := hide hr
  have HL := hide hr.1
  have hnc : n ≤ 1048576 := by have := hf.2.2.2.1; have := hr.1; simp only at *; omega
  have z1 : (bs node).size ≤ 1048576 := by rw [bs_size]; exact hf.2.2.1
  have z2 : (resText mem cpu).size ≤ 43 := by rw [resText_bs, bs_size]; exact resL_len mem cpu hB.2.2.2.1.1 hB.2.2.2.1.2
  have D1 := hide (fun wx => specResText_any mem cpu wx hB.2.2.2.1.1.1 hB.2.2.2.1.1.2 hB.2.2.2.1.2.1 hB.2.2.2.1.2.2)
  have HTL := hide (fun k => joinL_len node mem cpu conts k hf.2.2.1 hB.2.2.2.1.1 hB.2.2.2.1.2 hf.2.2.2.1 hB.2.2.2.2)
  have HCB := hide hB.2.2.2.2
  have HE0 := hide (join_eq0 node mem cpu conts)
  have HST := hide (fun k h => joinL_step node mem cpu conts k h)
  obtain ⟨T, hT⟩ : ∃ T : Nat → List UInt8, T = joinL node mem cpu conts := ⟨_, rfl⟩
  rw [← hT] at HTL HE0 HST ⊢
  have R := OBx.read w ⟨4, queue, app, ⟨am, ac, an, ad, ai⟩, cont, node, mem, cpu, conts⟩ ao n c
  obtain ⟨s2, e2⟩ : ∃ s, resText mem cpu = s := ⟨_, rfl⟩
  rw [e2] at z2 D1 HE0
  have n1 : ¬ 9223372036854775807 < 5 + (bs node).size := by omega
  have n2 : ¬ 9223372036854775807 < 5 + (bs node).size + 1 := by omega
  have n3 : ¬ 9223372036854775807 < 5 + (bs node).size + 1 + s2.size := by omega
  simp only at R
  clear hf hB hr hT e2
  go_enter Tryd.func6, Tryd.ntmps6
  go_wp2_with fail
  go_region_held3 (fun wx => OBx w ⟨4, queue, app, ⟨am, ac, an, ad, ai⟩, cont, node, mem, cpu, conts⟩ ao n c wx)
    (first | (with_reducible assumption) | exact (unhide A0).drew | exact OBx.call (by assumption) (by assumption))
    (first
    | (go_at_call 30; refine (unhide D1 _).mono ?_; rintro e wt ⟨rfl, hb⟩; have SA := OBx.call (w := w) (o := ⟨4, queue, app, ⟨am, ac, an, ad, ai⟩, cont, node, mem, cpu, conts⟩) (ao := ao) (n := n) (c := c) (by assumption) hb))
  have A1 := hide SA
  clear SA R A0 D1
  go_wp2
  go_loopw [4, 5] (fun s i wr => ∃ (k : Nat) (t : ByteArray), k ≤ n ∧ i = .int .i64 k ∧ s = .string t ∧ Hid (t = bs (T k)) ∧ Hid (OBx w ⟨4, queue, app, ⟨am, ac, an, ad, ai⟩, cont, node, mem, cpu, conts⟩ ao n c wr)) (fun _ i _ => n - (intOf i).toNat)
  case atStart => exact ⟨0, _, Nat.zero_le _, rfl, rfl, hide (unhide HE0), A1⟩
  case round =>
    obtain ⟨k, t, hk, rfl, rfl, HT, HA⟩ := hrel
    by_cases hlt : k < n
    · obtain ⟨b, off, rfl, hq⟩ := ((unhide HR).below (unhide HA).2).at hlt
      have hkl : k < conts.length := by have := unhide HL; omega
      have hst := unhide HST k hkl
      have hcb := unhide HCB conts[k] (List.getElem_mem _)
      have hqa := hq hkl
      have htl := unhide HTL k
      obtain ⟨q, hs⟩ : ∃ s, conts[k] = s := ⟨_, rfl⟩
      rw [hs] at hst hcb hqa
      have heq := join_eqS (T k) q
      rw [← hst, ← unhide HT] at heq
      have zt : t.size ≤ 1048700 + 91 * 1048576 := by rw [unhide HT, bs_size]; exact htl
      have y1 : (bs (Lib.itoa q.id)).size ≤ 21 := by rw [bs_size]; exact Lib.itoa_length_le q.id hcb.1.1 hcb.1.2
      have y2 : (bs (Lib.itoa q.app)).size ≤ 21 := by rw [bs_size]; exact Lib.itoa_length_le q.app hcb.2.1.1 hcb.2.1.2
      have y3 : (resText q.mem q.cpu).size ≤ 43 := by rw [resText_bs, bs_size]; exact resL_len q.mem q.cpu hcb.2.2.1 hcb.2.2.2
      have E1 := hide (fun wx (_ : True) => specDecText_any q.id wx hcb.1.1 hcb.1.2)
      have E2 := hide (fun wx (_ : True) => specDecText_any q.app wx hcb.2.1.1 hcb.2.1.2)
      have E3 := hide (fun wx => specResText_any q.mem q.cpu wx hcb.2.2.1.1 hcb.2.2.1.2 hcb.2.2.2.1 hcb.2.2.2.2)
      have B0 := hide (show OBC w ⟨4, queue, app, ⟨am, ac, an, ad, ai⟩, cont, node, mem, cpu, conts⟩ (some ⟨b, off, none⟩) n c b (off + k * 5) q wr from ⟨unhide HA, hqa⟩)
      have R := OBC.read w ⟨4, queue, app, ⟨am, ac, an, ad, ai⟩, cont, node, mem, cpu, conts⟩ (some ⟨b, off, none⟩) n c b (off + k * 5) q
      clear hq hqa hkl hst hcb htl hs
      obtain ⟨qi, qa, qn, qm, qc⟩ := q
      simp only at heq y1 y2 y3 E1 E2 E3 R
      obtain ⟨s1, e1⟩ : ∃ s, bs (Lib.itoa qi) = s := ⟨_, rfl⟩
      obtain ⟨s3, e3⟩ : ∃ s, bs (Lib.itoa qa) = s := ⟨_, rfl⟩
      obtain ⟨s4, e4⟩ : ∃ s, resText qm qc = s := ⟨_, rfl⟩
      rw [e1, e3, e4] at heq
      rw [e1] at y1 E1
      rw [e3] at y2 E2
      rw [e4] at y3 E3
      have HEQ := hide heq
      have m1 : ¬ 9223372036854775807 < t.size + 1 := by omega
      have m2 : ¬ 9223372036854775807 < t.size + 1 + s1.size := by omega
      have m3 : ¬ 9223372036854775807 < t.size + 1 + s1.size + 1 := by omega
      have m4 : ¬ 9223372036854775807 < t.size + 1 + s1.size + 1 + s3.size := by omega
      have m5 : ¬ 9223372036854775807 < t.size + 1 + s1.size + 1 + s3.size + 1 := by omega
      have m6 : ¬ 9223372036854775807 < t.size + 1 + s1.size + 1 + s3.size + 1 + s4.size := by omega
      have k0 : (0 : Int) ≤ k := by omega
      have k1 : (k : Int) < n := by omega
      have c12 := (unhide HA).1.at 12
      simp at c12
      clear heq e1 e3 e4 HA HT
      go_wp2_with fail
      go_region_held3 (fun wx => OBC w ⟨4, queue, app, ⟨am, ac, an, ad, ai⟩, cont, node, mem, cpu, conts⟩ (some ⟨b, off, none⟩) n c b (off + k * 5) ⟨qi, qa, qn, qm, qc⟩ wx)
        (first | (with_reducible assumption) | exact (unhide B0).drew | exact OBC.call (by assumption) (by assumption))
        (first
        | (go_at_call_of 21 qi; refine (unhide E1 _ trivial).mono ?_; rintro e wt ⟨rfl, rfl⟩; have SA := OBC.call (w := w) (o := ⟨4, queue, app, ⟨am, ac, an, ad, ai⟩, cont, node, mem, cpu, conts⟩) (ao := some ⟨b, off, none⟩) (n := n) (c := c) (b := b) (p := off + k * 5) (q := ⟨qi, qa, qn, qm, qc⟩) (by assumption) (Below.refl _ _))
        | (go_at_call_of 21 qa; refine (unhide E2 _ trivial).mono ?_; rintro e wt ⟨rfl, rfl⟩; have SA := OBC.call (w := w) (o := ⟨4, queue, app, ⟨am, ac, an, ad, ai⟩, cont, node, mem, cpu, conts⟩) (ao := some ⟨b, off, none⟩) (n := n) (c := c) (b := b) (p := off + k * 5) (q := ⟨qi, qa, qn, qm, qc⟩) (by assumption) (Below.refl _ _))
        | (go_at_call 30; refine (unhide E3 _).mono ?_; rintro e wt ⟨rfl, hb⟩; have SA := OBC.call (w := w) (o := ⟨4, queue, app, ⟨am, ac, an, ad, ai⟩, cont, node, mem, cpu, conts⟩) (ao := some ⟨b, off, none⟩) (n := n) (c := c) (b := b) (p := off + k * 5) (q := ⟨qi, qa, qn, qm, qc⟩) (by assumption) hb))
      have B1 := hide SA.1
      clear SA R B0 c12 E1 E2 E3
      go_wp2
      go_roundw
      case rel => exact ⟨k + 1, _, by omega, by go_num, rfl, hide (unhide HEQ), B1⟩
      case measure => simp [intOf]; omega
    · obtain rfl : k = n := by omega
      have c12 := (unhide HA).1.at 12
      simp at c12
      have HF := hide (show t = bs (T conts.length) by rw [unhide HT, unhide HL])
      clear HT
      go_wp2
      go_ret
      exact ⟨by rw [← unhide HF]; rfl, (unhide HA).2⟩
end Go.Proofs.YthnkbdjombiodaaDoor
