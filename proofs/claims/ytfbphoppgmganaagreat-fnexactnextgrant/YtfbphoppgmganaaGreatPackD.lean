/-
  Several texts of this claim in one: EqQ, TxtM, OpenQ (pack.py put them together); each says in its own remark what is proved.
-/
import Derived.Test.YtfbphoppgmganaaGreatPackC
import Derived.Deep.RegionHeld3
import Derived.Test.YtfbphoppgmganaaGreatPackA
import Derived.ProofKit
import Derived.OpenShut
import Derived.ChangeSame
import Derived.Deep.Slices
import Derived.Lib.ItoaMem
/-
  The laws' own eqQueue and eqQueueS, at rows that hold the same; walks over the dump.
-/
namespace Go.Proofs.YtfbphoppgmganaaGreat
open Go.RowKit
set_option linter.unusedVariables false

set_option maxRecDepth 100000 in
set_option maxHeartbeats 1000000 in
theorem eqQueue_same (q : Q) (w : World) :
    Calls Tryz.prog 118 #[qv q, qv q] w fun e w' => e = .returned (.bool true) ∧ Below w.heap.size w w' := by
  obtain ⟨nm, pa, du, mo⟩ := q
  go_enter Tryz.func118, Tryz.ntmps118
  go_wp2
  go_ret
  refine ⟨rfl, ?_⟩
  repeat (first | exact Below.refl _ _ | refine below_al ?_ _ | refine Below.drew ?_ | refine below_sc ?_ _ _ _ (by omega))

/-- the same queue stands at two places -/
def QTwo (w0 : World) (b p c r : Nat) (q : Q) (w : World) : Prop := QAt w b p q ∧ QAt w c r q ∧ Below w0.heap.size w0 w
theorem QTwo.call {w0 w w' : World} {b p c r : Nat} {q : Q} (h : QTwo w0 b p c r q w) (hb : Below w.heap.size w w') : QTwo w0 b p c r q w' := ⟨h.1.below hb, h.2.1.below hb, below_on h.2.2 hb⟩
theorem QTwo.drew {w0 w : World} {b p c r : Nat} {q : Q} (h : QTwo w0 b p c r q w) : QTwo w0 b p c r q w.drew := h.call (Below.refl _ _).drew
theorem QTwo.read (w0 : World) (b p c r : Nat) (q : Q) : ∀ wx, QTwo w0 b p c r q wx → wx.cell? ⟨b, p, none⟩ = some (.string (bs q.name)) ∧ wx.cell? ⟨b, p + 1, none⟩ = some (.string (bs q.parent)) ∧ wx.cell? ⟨b, p + 2, none⟩ = some (.int .i64 q.due) ∧ wx.cell? ⟨b, p + 3, none⟩ = some (.int .i64 q.most)
    ∧ wx.cell? ⟨c, r, none⟩ = some (.string (bs q.name)) ∧ wx.cell? ⟨c, r + 1, none⟩ = some (.string (bs q.parent)) ∧ wx.cell? ⟨c, r + 2, none⟩ = some (.int .i64 q.due) ∧ wx.cell? ⟨c, r + 3, none⟩ = some (.int .i64 q.most) :=
  fun wx h => ⟨h.1.1, h.1.2.1, h.1.2.2.1, h.1.2.2.2, h.2.1.1, h.2.1.2.1, h.2.1.2.2.1, h.2.1.2.2.2⟩

set_option maxRecDepth 100000 in
set_option maxHeartbeats 2000000 in
theorem eqQueueS_same (ao bo : Option Addr) (len cap ccap : Nat) (l : List Q) (w : World) (h : QRow w ao len l) (h' : QRow w bo len l) (hl : len ≤ 1048576) :
    Calls Tryz.prog 49 #[.slice ao len cap, .slice bo len ccap] w fun e w' => e = .returned (.bool true) ∧ Below w.heap.size w w' := by
  have HR := hide h
  have HR' := hide h'
  have HL := hide h.1
  clear h h'
  go_enter Tryz.func49, Tryz.ntmps49
  go_wp2
  go_loopw [5] (fun i wr => ∃ k : Nat, k ≤ len ∧ i = .int .i64 k ∧ Hid (Below w.heap.size w wr)) (fun i _ => len - (intOf i).toNat)
  case atStart => exact ⟨0, Nat.zero_le _, rfl, hide (Below.refl _ _)⟩
  case round =>
    obtain ⟨k, hk, rfl, HB⟩ := hrel
    by_cases hlt : k < len
    · obtain ⟨b, off, rfl, hq⟩ := ((unhide HR).below (unhide HB)).at hlt
      obtain ⟨c, coff, rfl, hq'⟩ := ((unhide HR').below (unhide HB)).at hlt
      have hkl : k < l.length := by have := unhide HL; omega
      have A0 := hide (show QTwo w b (off + k * 4) c (coff + k * 4) l[k] wr from ⟨hq hkl, hq' hkl, unhide HB⟩)
      obtain ⟨q, hs⟩ : ∃ q, l[k] = q := ⟨_, rfl⟩
      rw [hs] at A0
      have R := QTwo.read w b (off + k * 4) c (coff + k * 4) q
      have k0 : (0 : Int) ≤ k := by omega
      have k1 : (k : Int) < len := by omega
      clear hq hq' hs hkl
      go_wp2_with fail
      go_region_held3 (fun wx => QTwo w b (off + k * 4) c (coff + k * 4) q wx)
        (first | (with_reducible assumption) | exact (unhide A0).drew | exact QTwo.call (by assumption) (by assumption))
        (first
        | (go_at_call 118; refine (eqQueue_same _ _).mono ?_; rintro e wt ⟨rfl, hb⟩; have SA := QTwo.call (w0 := w) (b := b) (p := off + k * 4) (c := c) (r := coff + k * 4) (q := q) (by assumption) hb))
      have HB2 := hide SA.2.2
      clear SA R A0
      go_wp2
      go_roundw
      case rel => exact ⟨k + 1, by omega, by go_num, HB2⟩
      case measure => simp [intOf]; omega
    · go_wp2
      go_ret
      exact ⟨rfl, unhide HB⟩
end Go.Proofs.YtfbphoppgmganaaGreat

/-
  Texts as lists of bytes.
-/
namespace Go.Proofs.YtfbphoppgmganaaGreat
set_option linter.unusedVariables false

theorem bs_back (s : ByteArray) : bs s.data.toList = s := by simp [bs]
theorem bs_eq (l m : List UInt8) : ((bs l).toList == (bs m).toList) = decide (l = m) := by
  rw [ByteArray.toList_eq, ByteArray.toList_eq]
  by_cases h : l = m
  · subst h; simp
  · simp [bs, h]
theorem bs_empty (l : List UInt8) : (bs l).toList.isEmpty = decide (l = []) := by
  rw [ByteArray.toList_eq]
  cases l <;> simp [bs]
end Go.Proofs.YtfbphoppgmganaaGreat

/-
  A slice of queues that came in: what it holds.
-/
namespace Go.Proofs.YtfbphoppgmganaaGreat
open Go.ChangeShapes Go.WideShapes Go.ChangeAt Go.RowKit Go.Deep
set_option linter.unusedVariables false

theorem cells_lq : Tryz.prog.cellsOf 145 = 4 := by kernel_rfl
theorem cells_qs : Tryz.prog.cellsOf 9 = 1 := by kernel_rfl
theorem cells_qi : Tryz.prog.cellsOf 3 = 1 := by kernel_rfl
/-- sizes that a reading allows -/
def QFit (q : Q) : Prop := q.name.length ≤ 9223372036854775807 ∧ q.parent.length ≤ 9223372036854775807
set_option maxRecDepth 100000 in
theorem open_q1 {H : Type} {enc : TypeId × Value → H} {W : World} {base : Nat} {sp : Nat → Bool} {held : Bool} {fuel : Nat} {cs : List Value} {x : DataW H × List MemPlace}
    (h : DataW.trod enc Tryz.prog W base sp held fuel 145 cs = some x) :
    ∃ q : Q, cs = [.string (bs q.name), .string (bs q.parent), .int .i64 q.due, .int .i64 q.most] ∧ QFit q ∧ (Lit.int .i64 q.due).wf = true ∧ (Lit.int .i64 q.most).wf = true := by
  obtain ⟨xs, n, rfl, rfl, hlen, hxs, hf⟩ := DataW.trod_struct Tryz.underlying145 h
  rw [cells_lq] at hlen
  have hxs : xs.length = 4 := hxs
  match cs, hlen, xs, hxs with
  | [c0, c1, c2, c3], _, [x0, x1, x2, x3], _ =>
    have h0 := hf 0 _ rfl
    have h1 := hf 1 _ rfl
    have h2 := hf 2 _ rfl
    have h3 := hf 3 _ rfl
    obtain ⟨s0, e0, _, b0⟩ := DataW.trod_string Tryz.underlying9 h0
    obtain ⟨s1, e1, _, b1⟩ := DataW.trod_string Tryz.underlying9 h1
    obtain ⟨d, e2, _, b2⟩ := DataW.trod_int Tryz.underlying3 h2
    obtain ⟨m, e3, _, b3⟩ := DataW.trod_int Tryz.underlying3 h3
    simp [cells_qs, cells_qi] at e0 e1 e2 e3
    subst e0 e1 e2 e3
    refine ⟨⟨s0.data.toList, s1.data.toList, d, m⟩, by simp only [bs_back], ⟨?_, ?_⟩, b2, b3⟩
    · simpa [maxLen] using b0
    · simpa [maxLen] using b1
theorem open_queues {H : Type} {enc : TypeId × Value → H} {W : World} {base : Nat} {held : Bool} {ao : Option Addr} {len cap : Nat} {d : DataW H} {p : List MemPlace}
    (h : DataW.Trod enc Tryz.prog W base (fun _ => true) held 22 (.slice ao len cap) d p) :
    ∃ l : List Q, QRow W ao len l ∧ len ≤ 9223372036854775807 ∧ ∀ q ∈ l, QFit q ∧ (Lit.int .i64 q.due).wf = true ∧ (Lit.int .i64 q.most).wf = true := by
  obtain ⟨fuel, hf⟩ := h
  rcases open_slice Tryz.underlying22 hf with ⟨hcs, _⟩ | ⟨a, len', cap', m, n, D, Pl, hcs, hb, hl, hm, hmm, hx, hel⟩
  · simp [Value.cells] at hcs
    obtain ⟨rfl, rfl, rfl⟩ := hcs
    exact ⟨[], QRow.nil _ _, by omega, by simp⟩
  · simp [Value.cells] at hcs
    obtain ⟨rfl, rfl, rfl⟩ := hcs
    simp only [if_true] at hmm
    subst hmm
    rw [cells_lq] at hel
    have inh : Inhabited Q := ⟨⟨[], [], 0, 0⟩⟩
    obtain ⟨F, hF⟩ := choose_lt (α := Q) (n := len) (p := fun i q => W.cells? base (a.add (i * 4)) 4 = some [.string (bs q.name), .string (bs q.parent), .int .i64 q.due, .int .i64 q.most] ∧ QFit q ∧ (Lit.int .i64 q.due).wf = true ∧ (Lit.int .i64 q.most).wf = true) (fun i hi => by
      obtain ⟨cs', h1, h2⟩ := hel i (by omega)
      obtain ⟨q, rfl, h3⟩ := open_q1 h2
      exact ⟨q, h1, h3⟩)
    refine ⟨(List.range len).map F, ?_, by have : maxLen = 9223372036854775807 := rfl; omega, ?_⟩
    · refine ⟨by simp, ?_⟩
      by_cases h0 : len = 0
      · exact .inl h0
      · right
        obtain ⟨b, off, spot⟩ := a
        have hc0 := (World.cells?_some (hF 0 (by omega)).1).2.2 0 (by omega)
        have hspot : spot = none := by simpa [Addr.add] using World.cell?_spot hc0
        subst hspot
        refine ⟨b, off, rfl, fun i hi => ?_⟩
        have hi' : i < len := by simpa using hi
        obtain ⟨_, _, hc⟩ := World.cells?_some (hF i hi').1
        rw [Lib.add_plain] at hc
        have k0 := hc 0 (by omega)
        have k1 := hc 1 (by omega)
        have k2 := hc 2 (by omega)
        have k3 := hc 3 (by omega)
        rw [Lib.add_plain] at k0 k1 k2 k3
        simp only [List.getElem_map, List.getElem_range]
        exact ⟨k0, k1, k2, k3⟩
    · intro q hq
      obtain ⟨i, hi, rfl⟩ := List.mem_map.1 hq
      exact (hF i (by simpa using hi)).2
end Go.Proofs.YtfbphoppgmganaaGreat
