/-
  Records: values, the laws' own helpers (szRec, toRec, eqRec), a record that came in; which are right; walks over the dump.
-/
import Derived.Test.YtbnpcjfgaafeoaaDoorKeptV
import Derived.Test.YtbnpcjfgaafeoaaDoorTxtM
import Derived.Test.YtbnpcjfgaafeoaaDoorName
import Derived.Test.YtbnpcjfgaafeoaaDoorCountI
import Derived.ProofKit
import Derived.OpenShut
import Derived.ChangeSame
import Derived.Deep.Slices
namespace Go.Proofs.YtbnpcjfgaafeoaaDoor
open Go.ChangeShapes Go.WideShapes Go.ChangeAt Go.RowKit Go.Deep
set_option linter.unusedVariables false

structure Rc where
  kind : Int
  app : Int
  queue : List UInt8
abbrev rcv (r : Rc) : Value := .agg #[.int .i64 r.kind, .int .i64 r.app, .string (bs r.queue)]
def RcFit (r : Rc) : Prop := r.queue.length ≤ 9223372036854775807 ∧ (Lit.int .i64 r.kind).wf = true ∧ (Lit.int .i64 r.app).wf = true
def szRc (r : Rc) (a : Int) : Int := if a - r.queue.length < 0 then -1 else a - r.queue.length

set_option maxRecDepth 100000 in
set_option maxHeartbeats 1000000 in
theorem szRec_any (r : Rc) (a : Int) (w : World) (ha0 : 0 ≤ a) (ha1 : a ≤ 1048576) (hn : r.queue.length ≤ 9223372036854775807) :
    Calls Tryd.prog 5 #[rcv r, .int .i64 a] w fun e w' => e = .returned (.int .i64 (szRc r a)) ∧ Below w.heap.size w w' := by
  obtain ⟨x0, x1, x3⟩ := r
  have z1 := bs_size x3
  simp only at hn
  unfold szRc
  simp only
  by_cases h1 : a - x3.length < 0
  · rw [if_pos h1]
    go_enter Tryd.func5, Tryd.ntmps5
    go_wp2
    go_ret
    refine ⟨rfl, ?_⟩
    repeat (first | exact Below.refl _ _ | refine below_al ?_ _ | refine Below.drew ?_ | refine below_sc ?_ _ _ _ (by omega))
  · rw [if_neg h1]
    go_enter Tryd.func5, Tryd.ntmps5
    go_wp2
    go_ret
    refine ⟨rfl, ?_⟩
    repeat (first | exact Below.refl _ _ | refine below_al ?_ _ | refine Below.drew ?_ | refine below_sc ?_ _ _ _ (by omega))
theorem szRec_cases (r : Rc) (a : Int) (ha0 : 0 ≤ a) (ha1 : a ≤ 1048576) : szRc r a = -1 ∨ (0 ≤ szRc r a ∧ szRc r a ≤ a ∧ r.queue.length ≤ 1048576) := by
  unfold szRc
  split
  · exact .inl rfl
  · right; omega

set_option maxRecDepth 100000 in
set_option maxHeartbeats 1000000 in
theorem toRec_any (r : Rc) (w : World) :
    Calls Tryd.prog 7 #[rcv r] w fun e w' => e = .returned (rcv r) ∧ Below w.heap.size w w' := by
  obtain ⟨x0, x1, x2⟩ := r
  go_enter Tryd.func7, Tryd.ntmps7
  go_wp2
  refine bodyPost_ret (v := rcv ⟨x0, x1, x2⟩) (by simp [results, Tryd.results7, go_sem]) rfl ⟨rfl, ?_⟩
  repeat (first | exact Below.refl _ _ | refine below_al ?_ _ | refine Below.drew ?_ | refine below_sc ?_ _ _ _ (by omega))

theorem cells_lrec : Tryd.prog.cellsOf 23 = 3 := by kernel_rfl
theorem cells_rs : Tryd.prog.cellsOf 9 = 1 := by kernel_rfl
theorem cells_ri : Tryd.prog.cellsOf 3 = 1 := by kernel_rfl
set_option maxRecDepth 100000 in
theorem open_rec1 {H : Type} {enc : TypeId × Value → H} {W : World} {base : Nat} {sp : Nat → Bool} {held : Bool} {fuel : Nat} {cs : List Value} {x : DataW H × List MemPlace}
    (h : DataW.trod enc Tryd.prog W base sp held fuel 23 cs = some x) :
    ∃ q : Rc, cs = [.int .i64 q.kind, .int .i64 q.app, .string (bs q.queue)] ∧ RcFit q := by
  obtain ⟨xs, n, rfl, rfl, hlen, hxs, hf⟩ := DataW.trod_struct Tryd.underlying23 h
  rw [cells_lrec] at hlen
  have hxs : xs.length = 3 := hxs
  match cs, hlen, xs, hxs with
  | [c0, c1, c2], _, [x0, x1, x2], _ =>
    have h0 := hf 0 _ rfl
    have h1 := hf 1 _ rfl
    have h2 := hf 2 _ rfl
    obtain ⟨s0, e0, _, b0⟩ := DataW.trod_int Tryd.underlying3 h0
    obtain ⟨s1, e1, _, b1⟩ := DataW.trod_int Tryd.underlying3 h1
    obtain ⟨s2, e2, _, b2⟩ := DataW.trod_string Tryd.underlying9 h2
    simp [cells_rs, cells_ri] at e0 e1 e2
    subst e0 e1 e2
    refine ⟨⟨s0, s1, s2.data.toList⟩, by simp only [bs_back], ?_, b0, b1⟩
    simpa [maxLen] using b2
set_option maxRecDepth 100000 in
theorem open_recv {H : Type} {enc : TypeId × Value → H} {W : World} {base b0 : Nat} {r : Reach} {sp : Nat → Bool} {held : Bool} {v : Value} {d : DataW H} {p : List MemPlace}
    (hv : Value.okWide Tryd.prog W r b0 23 v) (h : DataW.Trod enc Tryd.prog W base sp held 23 v d p) :
    ∃ q : Rc, v = rcv q ∧ RcFit q := by
  obtain ⟨cs, rfl, hsz⟩ := okWide_struct Tryd.underlying23 hv
  obtain ⟨fuel, hf⟩ := h
  obtain ⟨l⟩ := cs
  have hcells : (Value.agg ⟨l⟩).cells.toList = l := by simp [Value.cells]
  rw [hcells] at hf
  obtain ⟨q, rfl, hq⟩ := open_rec1 hf
  exact ⟨q, rfl, hq⟩

def recOk (r : Rc) : Bool :=
  if r.kind = 0 then inB r.app 1 1000000000 && nameOk r.queue
  else if r.kind = 1 then inB r.app 1 1000000000 && decide (r.queue = [])
  else if r.kind = 2 then decide (r.app = 0) && decide (r.queue = [])
  else false
theorem recOk_bd {r : Rc} (h : recOk r = true) : 0 ≤ r.kind ∧ r.kind ≤ 2 ∧ 0 ≤ r.app ∧ r.app ≤ 1000000000 ∧ r.queue.length ≤ 10 := by
  obtain ⟨k, a, q⟩ := r
  unfold recOk at h
  simp only at h ⊢
  split at h
  · simp only [inB, nameOk, Bool.and_eq_true, decide_eq_true_eq] at h; omega
  split at h
  · simp only [inB, Bool.and_eq_true, decide_eq_true_eq] at h; obtain ⟨h1, rfl⟩ := h; simp; omega
  split at h
  · simp only [Bool.and_eq_true, decide_eq_true_eq] at h; obtain ⟨h1, rfl⟩ := h; simp; omega
  · exact absurd h (by simp)

set_option maxRecDepth 100000 in
set_option maxHeartbeats 4000000 in
theorem specRecOk_any (r : Rc) (w : World) (hq : r.queue.length ≤ 1048576) :
    Calls Tryd.prog 14 #[rcv r] w fun e w' => e = .returned (.bool (recOk r)) ∧ Below w.heap.size w w' := by
  obtain ⟨k, a, q⟩ := r
  simp only at hq
  have hbe := bs_empty q
  obtain ⟨i1, hi1⟩ : ∃ b, inB a 1 1000000000 = b := ⟨_, rfl⟩
  obtain ⟨n1, hn1⟩ : ∃ b, nameOk q = b := ⟨_, rfl⟩
  have C1 := hide (fun wx => by have := l01In_any a 1 1000000000 wx; rw [hi1] at this; exact this)
  have C2 := hide (fun wx => by have := specNameOk_any (bs q) wx (by rw [bs_size]; exact hq); rw [show nameOk (bs q).data.toList = n1 from hn1] at this; exact this)
  have K0 := hide (blk_new w #[.int .i64 k, .int .i64 a, .string (bs q)] 26)
  have HB0 := hide (below_al (Below.refl _ w) (.cells #[.int .i64 k, .int .i64 a, .string (bs q)] 26))
  by_cases h0 : k = 0
  · subst h0
    have HR : recOk ⟨0, a, q⟩ = (i1 && n1) := by simp [recOk, hi1, hn1]
    rw [HR]
    clear hi1 hn1 HR
    cases i1
    · go_enter Tryd.func14, Tryd.ntmps14
      go_wp2_with fail
      refine (unhide C1 _).mono ?_
      rintro e w1 ⟨rfl, rfl⟩
      go_wp2
      go_ret
      exact ⟨rfl, unhide HB0⟩
    · go_enter Tryd.func14, Tryd.ntmps14
      go_wp2_with fail
      refine (unhide C1 _).mono ?_
      rintro e w1 ⟨rfl, rfl⟩
      go_wp2_with fail
      refine (unhide C2 _).mono ?_
      rintro e w2 ⟨rfl, rfl⟩
      go_wp2
      go_ret
      exact ⟨by simp, unhide HB0⟩
  by_cases h1 : k = 1
  · subst h1
    obtain ⟨z, hz⟩ : ∃ b, decide (q = []) = b := ⟨_, rfl⟩
    rw [hz] at hbe
    have HR : recOk ⟨1, a, q⟩ = (i1 && z) := by simp only [recOk, hi1, hz]; rfl
    rw [HR]
    clear hi1 hn1 HR hz
    cases i1 <;> cases z
    all_goals
      go_enter Tryd.func14, Tryd.ntmps14
      go_wp2_with fail
      refine (unhide C1 _).mono ?_
      rintro e w1 ⟨rfl, rfl⟩
      go_wp2
      go_ret
      exact ⟨rfl, unhide HB0⟩
  by_cases h2 : k = 2
  · subst h2
    obtain ⟨z, hz⟩ : ∃ b, decide (q = []) = b := ⟨_, rfl⟩
    rw [hz] at hbe
    by_cases ha : a = 0
    · subst ha
      have HR : recOk ⟨2, 0, q⟩ = z := by simp only [recOk, hz]; rfl
      rw [HR]
      clear hi1 hn1 HR hz
      cases z
      all_goals
        go_enter Tryd.func14, Tryd.ntmps14
        go_wp2
        go_ret
        exact ⟨rfl, unhide HB0⟩
    · have HR : recOk ⟨2, a, q⟩ = false := by simp [recOk, ha]
      rw [HR]
      clear hi1 hn1 HR hz
      go_enter Tryd.func14, Tryd.ntmps14
      go_wp2
      go_ret
      exact ⟨rfl, unhide HB0⟩
  have HR : recOk ⟨k, a, q⟩ = false := by simp [recOk, h0, h1, h2]
  rw [HR]
  clear hi1 hn1 HR
  go_enter Tryd.func14, Tryd.ntmps14
  go_wp2
  go_ret
  exact ⟨rfl, unhide HB0⟩

set_option maxRecDepth 100000 in
set_option maxHeartbeats 4000000 in
theorem implRecOk_any (r : Rc) (w : World) (hq : r.queue.length ≤ 1048576) :
    Calls Tryd.prog 16 #[rcv r] w fun e w' => e = .returned (.bool (recOk r)) ∧ Below w.heap.size w w' := by
  obtain ⟨k, a, q⟩ := r
  simp only at hq
  have hbe := bs_empty q
  obtain ⟨i1, hi1⟩ : ∃ b, inB a 1 1000000000 = b := ⟨_, rfl⟩
  obtain ⟨n1, hn1⟩ : ∃ b, nameOk q = b := ⟨_, rfl⟩
  have C1 := hide (fun wx => by have := countOk_any a wx; rw [hi1] at this; exact this)
  have C2 := hide (fun wx => by have := implNameOk_any (bs q) wx (by rw [bs_size]; exact hq); rw [show nameOk (bs q).data.toList = n1 from hn1] at this; exact this)
  have K0 := hide (blk_new w #[.int .i64 k, .int .i64 a, .string (bs q)] 26)
  have HB0 := hide (below_al (Below.refl _ w) (.cells #[.int .i64 k, .int .i64 a, .string (bs q)] 26))
  by_cases h0 : k = 0
  · subst h0
    have HR : recOk ⟨0, a, q⟩ = (i1 && n1) := by simp [recOk, hi1, hn1]
    rw [HR]
    clear hi1 hn1 HR
    cases i1
    · go_enter Tryd.func16, Tryd.ntmps16
      go_wp2_with fail
      refine (unhide C1 _).mono ?_
      rintro e w1 ⟨rfl, rfl⟩
      go_wp2
      go_ret
      exact ⟨rfl, unhide HB0⟩
    · go_enter Tryd.func16, Tryd.ntmps16
      go_wp2_with fail
      refine (unhide C1 _).mono ?_
      rintro e w1 ⟨rfl, rfl⟩
      go_wp2_with fail
      refine (unhide C2 _).mono ?_
      rintro e w2 ⟨rfl, rfl⟩
      go_wp2
      go_ret
      exact ⟨by simp, unhide HB0⟩
  by_cases h1 : k = 1
  · subst h1
    obtain ⟨z, hz⟩ : ∃ b, decide (q = []) = b := ⟨_, rfl⟩
    rw [hz] at hbe
    have HR : recOk ⟨1, a, q⟩ = (i1 && z) := by simp only [recOk, hi1, hz]; rfl
    rw [HR]
    clear hi1 hn1 HR hz
    cases i1 <;> cases z
    all_goals
      go_enter Tryd.func16, Tryd.ntmps16
      go_wp2_with fail
      refine (unhide C1 _).mono ?_
      rintro e w1 ⟨rfl, rfl⟩
      go_wp2
      go_ret
      exact ⟨rfl, unhide HB0⟩
  by_cases h2 : k = 2
  · subst h2
    obtain ⟨z, hz⟩ : ∃ b, decide (q = []) = b := ⟨_, rfl⟩
    rw [hz] at hbe
    by_cases ha : a = 0
    · subst ha
      have HR : recOk ⟨2, 0, q⟩ = z := by simp only [recOk, hz]; rfl
      rw [HR]
      clear hi1 hn1 HR hz
      cases z
      all_goals
        go_enter Tryd.func16, Tryd.ntmps16
        go_wp2
        go_ret
        exact ⟨rfl, unhide HB0⟩
    · have HR : recOk ⟨2, a, q⟩ = false := by simp [recOk, ha]
      rw [HR]
      clear hi1 hn1 HR hz
      go_enter Tryd.func16, Tryd.ntmps16
      go_wp2
      go_ret
      exact ⟨rfl, unhide HB0⟩
  have HR : recOk ⟨k, a, q⟩ = false := by simp [recOk, h0, h1, h2]
  rw [HR]
  clear hi1 hn1 HR
  go_enter Tryd.func16, Tryd.ntmps16
  go_wp2
  go_ret
  exact ⟨rfl, unhide HB0⟩

end Go.Proofs.YtbnpcjfgaafeoaaDoor
