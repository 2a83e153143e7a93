/-
  Several texts of this claim in one: Hav, CopyC, CpC (pack.py put them together); each says in its own remark what is proved.
-/
import Derived.Test.YtjjnmiajkjibeaaGreatPackF
import Derived.Test.YtjjnmiajkjibeaaGreatOwnP
import Derived.Test.YtjjnmiajkjibeaaGreatPackG
import Derived.Test.YtjjnmiajkjibeaaGreatStAll
import Derived.Deep.CutBlock
import Derived.Deep.CutRange
/-
  Lists that lie in blocks of their own, of each kind: what calls and stores elsewhere leave of them.
-/
namespace Go.Proofs.YtjjnmiajkjibeaaGreat
open Go.RowKit
set_option linter.unusedVariables false

theorem Own1.grow {B E : Nat} {w w' : World} {t : TypeId} {sz n : Nat} {ao : Option Addr} (h : Own1 B E w t sz ao n) (hb : Below w.heap.size w w') (hE : E ≤ w.heap.size) : Own1 B w'.heap.size w' t sz ao n := (h.below hb).mono (Nat.le_refl _) (Nat.le_trans hE hb.size)
theorem not_in {B E k : Nat} {w : World} {t : TypeId} {sz n : Nat} {ao : Option Addr} (h : Own1 B E w t sz ao n) (hk : k < B ∨ E ≤ k) : ∀ i, inR ao n i → ¬ (i = k) := fun i hi e => by
  obtain ⟨h1, h2, _⟩ := h.lies i hi
  omega

/-- queues in a block of their own -/
def QHas (B : Nat) (w : World) (ao : Option Addr) (n : Nat) (l : List Q) : Prop := QRow w ao n l ∧ Own1 B w.heap.size w 99 4 ao n
theorem QHas.below {B n : Nat} {w w' : World} {ao : Option Addr} {l : List Q} (h : QHas B w ao n l) (hb : Below w.heap.size w w') : QHas B w' ao n l := ⟨h.1.below hb, h.2.grow hb (Nat.le_refl _)⟩
theorem QHas.sc {B n k j : Nat} {v : Value} {w : World} {ao : Option Addr} {l : List Q} (h : QHas B w ao n l) (hk : k < B) : QHas B (w.setCell ⟨k, j, none⟩ v) ao n l :=
  ⟨h.1.mks (Mks.one (fun x => x = k) w k j v rfl) (not_in h.2 (.inl hk)), by rw [set_size]; exact h.2.mks (Mks.one (fun x => x = k) w k j v rfl)⟩
theorem QOwn.has {B : Nat} {w : World} {v : Value} {l : List Q} (h : QOwn B w v l) : ∃ ao cap, v = .slice ao l.length cap ∧ l.length ≤ cap ∧ QHas B w ao l.length l := by
  obtain ⟨ao, cap, e, hr, hc, hg⟩ := qown_rowx h
  refine ⟨ao, cap, e, hc, hr, ?_⟩
  by_cases hz : l = []
  · exact .inl (by rw [hz]; rfl)
  · obtain ⟨g, cur, e, h1, h2, h3⟩ := hg hz
    exact .inr ⟨g, cap, e, h1, lt_of_block h2, ⟨cur, h2, h3⟩, hc⟩

/-- machines in a block of their own -/
def MHas (B : Nat) (w : World) (ao : Option Addr) (n : Nat) (l : List Mac) : Prop := MacRow w ao n l ∧ Own1 B w.heap.size w 103 4 ao n
theorem MHas.below {B n : Nat} {w w' : World} {ao : Option Addr} {l : List Mac} (h : MHas B w ao n l) (hb : Below w.heap.size w w') : MHas B w' ao n l := ⟨h.1.below hb, h.2.grow hb (Nat.le_refl _)⟩
theorem MHas.sc {B n k j : Nat} {v : Value} {w : World} {ao : Option Addr} {l : List Mac} (h : MHas B w ao n l) (hk : k < B) : MHas B (w.setCell ⟨k, j, none⟩ v) ao n l :=
  ⟨h.1.mks (Mks.one (fun x => x = k) w k j v rfl) (not_in h.2 (.inl hk)), by rw [set_size]; exact h.2.mks (Mks.one (fun x => x = k) w k j v rfl)⟩
theorem mown_has {B : Nat} {w : World} {v : Value} {l : List Mac} (h : MOwn B w v l) : ∃ ao cap, v = .slice ao l.length cap ∧ l.length ≤ cap ∧ MHas B w ao l.length l := by
  obtain ⟨ao, cap, e, hr, hc, hg⟩ := mown_row h
  refine ⟨ao, cap, e, hc, hr, ?_⟩
  by_cases hz : l = []
  · exact .inl (by rw [hz]; rfl)
  · obtain ⟨g, cur, e, h1, h2, h3⟩ := hg hz
    exact .inr ⟨g, cap, e, h1, lt_of_block h2, ⟨cur, h2, h3⟩, hc⟩

/-- containers in a block of their own -/
def CHas (B : Nat) (w : World) (ao : Option Addr) (n : Nat) (l : List Con) : Prop := ConRow w ao n l ∧ Own1 B w.heap.size w 61 5 ao n
theorem CHas.below {B n : Nat} {w w' : World} {ao : Option Addr} {l : List Con} (h : CHas B w ao n l) (hb : Below w.heap.size w w') : CHas B w' ao n l := ⟨h.1.below hb, h.2.grow hb (Nat.le_refl _)⟩
theorem CHas.sc {B n k j : Nat} {v : Value} {w : World} {ao : Option Addr} {l : List Con} (h : CHas B w ao n l) (hk : k < B) : CHas B (w.setCell ⟨k, j, none⟩ v) ao n l :=
  ⟨h.1.mks (Mks.one (fun x => x = k) w k j v rfl) (not_in h.2 (.inl hk)), by rw [set_size]; exact h.2.mks (Mks.one (fun x => x = k) w k j v rfl)⟩
theorem CHas.base {B B' n : Nat} {w : World} {ao : Option Addr} {l : List Con} (h : CHas B w ao n l) (hb : B' ≤ B) : CHas B' w ao n l := ⟨h.1, h.2.mono hb (Nat.le_refl _)⟩
theorem cown_has {B : Nat} {w : World} {v : Value} {l : List Con} (h : COwn B w v l) : ∃ ao cap, v = .slice ao l.length cap ∧ l.length ≤ cap ∧ CHas B w ao l.length l := by
  obtain ⟨ao, cap, e, hr, hc, hg⟩ := cown_row h
  refine ⟨ao, cap, e, hc, hr, ?_⟩
  by_cases hz : l = []
  · exact .inl (by rw [hz]; rfl)
  · obtain ⟨g, cur, e, h1, h2, h3⟩ := hg hz
    exact .inr ⟨g, cap, e, h1, lt_of_block h2, ⟨cur, h2, h3⟩, hc⟩

/-- heads of applications in a block of their own -/
def PHas (B : Nat) (w : World) (ao : Option Addr) (n : Nat) (hs : List AV) : Prop := AVRow w ao n hs ∧ Own1 B w.heap.size w 95 3 ao n
theorem PHas.below {B n : Nat} {w w' : World} {ao : Option Addr} {l : List AV} (h : PHas B w ao n l) (hb : Below w.heap.size w w') : PHas B w' ao n l := ⟨h.1.below hb, h.2.grow hb (Nat.le_refl _)⟩
theorem PHas.sc {B n k j : Nat} {v : Value} {w : World} {ao : Option Addr} {l : List AV} (h : PHas B w ao n l) (hk : k < B) : PHas B (w.setCell ⟨k, j, none⟩ v) ao n l :=
  ⟨h.1.mks (Mks.one (fun x => x = k) w k j v rfl) (not_in h.2 (.inl hk)), by rw [set_size]; exact h.2.mks (Mks.one (fun x => x = k) w k j v rfl)⟩
theorem pown_has {B : Nat} {w : World} {v : Value} {l : List AV} (h : POwn B w v l) : ∃ ao cap, v = .slice ao l.length cap ∧ l.length ≤ cap ∧ PHas B w ao l.length l := by
  obtain ⟨ao, cap, e, hr, hc, hg⟩ := pown_row h
  refine ⟨ao, cap, e, hc, hr, ?_⟩
  by_cases hz : l = []
  · exact .inl (by rw [hz]; rfl)
  · obtain ⟨g, cur, e, h1, h2, h3⟩ := hg hz
    exact .inr ⟨g, cap, e, h1, lt_of_block h2, ⟨cur, h2, h3⟩, hc⟩

/-- the asks of these heads lie each in a block of its own, and are those of these applications -/
structure KHas (B : Nat) (w : World) (ns : List AV) (l : List Appl) : Prop where
  heads : Heads w ns l
  own : ∀ v ∈ ns, Own1 B w.heap.size w 143 5 v.ao v.len
  apart : ns.Pairwise Apart
theorem KHas.below {B : Nat} {w w' : World} {ns : List AV} {l : List Appl} (h : KHas B w ns l) (hb : Below w.heap.size w w') : KHas B w' ns l := ⟨h.heads.below hb, fun v hv => (h.own v hv).grow hb (Nat.le_refl _), h.apart⟩
/-- a store into a block of another type, or below B -/
theorem KHas.sc {B k j : Nat} {v : Value} {w : World} {ns : List AV} {l : List Appl} (h : KHas B w ns l) (hk : k < B ∨ ∃ t N, Cel w t k N ∧ t ≠ 143) : KHas B (w.setCell ⟨k, j, none⟩ v) ns l := by
  have key : ∀ u ∈ ns, ∀ i, inR u.ao u.len i → ¬ (i = k) := fun u hu i hi e => by
    obtain ⟨h1, h2, N, hc⟩ := (h.own u hu).lies i hi
    subst e
    rcases hk with hk | ⟨t, N', hc', ht⟩
    · omega
    · exact ht (hc'.type hc)
  refine ⟨⟨h.heads.1, fun i h1 h2 => ?_⟩, fun u hu => ?_, h.apart⟩
  · obtain ⟨a, b, c, d⟩ := h.heads.2 i h1 h2
    exact ⟨a, b, c.mks (Mks.one (fun x => x = k) w k j v rfl) (key _ (List.getElem_mem h1)), d⟩
  · rw [set_size]
    exact (h.own u hu).mks (Mks.one (fun x => x = k) w k j v rfl)
theorem KHas.nil (B : Nat) (w : World) : KHas B w [] [] := ⟨⟨rfl, fun i h => absurd h (by simp)⟩, fun v hv => absurd hv (by simp), .nil⟩
theorem aown_has {B : Nat} {w : World} {v : Value} {l : List Ask} (h : AOwn B w v l) : ∃ ao cap, v = .slice ao l.length cap ∧ l.length ≤ cap ∧ AskRow w ao l.length l ∧ Own1 B w.heap.size w 143 5 ao l.length := by
  obtain ⟨ao, cap, e, hr, hc, hg⟩ := h.row
  refine ⟨ao, cap, e, hc, hr, ?_⟩
  by_cases hz : l = []
  · exact .inl (by rw [hz]; rfl)
  · obtain ⟨g, cur, e, h1, h2, h3⟩ := hg hz
    exact .inr ⟨g, cap, e, h1, lt_of_block h2, ⟨cur, h2, h3⟩, hc⟩
/-- one more, whose asks lie behind all that was there -/
theorem KHas.snoc {B : Nat} {w w' : World} {ns : List AV} {l : List Appl} (h : KHas B w ns l) (hb : Below w.heap.size w w') (hB : B ≤ w.heap.size) (id : Int) (qu : List UInt8) (ao : Option Addr) (cap : Nat) (k : List Ask) (hc : k.length ≤ cap)
    (hr : AskRow w' ao k.length k) (ho : Own1 w.heap.size w'.heap.size w' 143 5 ao k.length) : KHas B w' (ns ++ [⟨id, qu, ao, k.length, cap⟩]) (l ++ [⟨id, qu, k⟩]) := by
  have h' := h.below hb
  refine ⟨⟨by simp [h.heads.1], fun i h1 h2 => ?_⟩, fun v hv => ?_, ?_⟩
  · by_cases hi : i < ns.length
    · have hi' : i < l.length := by rw [← h.heads.1]; exact hi
      rw [List.getElem_append_left hi, List.getElem_append_left hi']
      exact h'.heads.2 i hi hi'
    · have hi1 : i = ns.length := by simp at h1; omega
      subst hi1
      have hl : ns.length = l.length := h.heads.1
      simp only [List.getElem_append_right (Nat.le_refl _), Nat.sub_self, List.getElem_cons_zero]
      rw [List.getElem_append_right (by omega)]
      simp only [hl, Nat.sub_self, List.getElem_cons_zero]
      exact ⟨trivial, trivial, hr, hc⟩
  · rcases List.mem_append.1 hv with hv | hv
    · exact h'.own v hv
    · simp at hv
      subst hv
      exact ho.mono hB (Nat.le_refl _)
  · refine List.pairwise_append.2 ⟨h.apart, by simp, fun u hu v hv => ?_⟩
    simp at hv
    subst hv
    rcases h.own u hu with e | ⟨g1, M1, e1, _, h3, _⟩
    · exact .inl e
    · rcases ho with e | ⟨g2, M2, e2, h4, _⟩
      · exact .inr (.inl e)
      · refine .inr (.inr (fun e => ?_))
        simp only at e
        rw [e1, e2] at e
        cases e
        omega
/-- the row of applications that heads and asks make -/
theorem appl_of {w : World} {ao : Option Addr} {n : Nat} {hs : List AV} {l : List Appl} (h : AVRow w ao n hs) (hh : Heads w hs l) : ApplRow w ao n l := by
  refine ⟨h.1.trans hh.1, ?_⟩
  rcases h.2 with e | ⟨b, off, e, hc⟩
  · exact .inl e
  · refine .inr ⟨b, off, e, fun i hi => ?_⟩
    have hi' : i < hs.length := by rw [hh.1]; exact hi
    obtain ⟨a1, a2, a3, a4⟩ := hh.2 i hi' hi
    obtain ⟨c1, c2, c3⟩ := hc i hi'
    rw [a1] at c1
    rw [a2] at c2
    exact ⟨hs[i].ao, hs[i].len, hs[i].cap, c1, c2, c3, a3, a4⟩
/-- the lists of a state, put together -/
theorem sans_of {B : Nat} {w : World} {x : Sls} {s : St} {hs : List AV} (q : QHas B w x.qa x.ql s.qs) (a : PHas B w x.aa x.al hs) (k : KHas B w hs s.apps) (m : MHas B w x.ma x.ml s.ms) (c : CHas B w x.ca x.cl s.cs) (cap : SCap x) : SAns B w.heap.size w x s hs :=
  ⟨⟨q.1, appl_of a.1 k.heads, m.1, c.1⟩, q.2, a.2, m.2, c.2, a.1, k.heads, k.own, k.apart, cap⟩
end Go.Proofs.YtjjnmiajkjibeaaGreat

/-
  A container copied: what the program's copyOfCont answers; a walk over the dump.
-/
namespace Go.Proofs.YtjjnmiajkjibeaaGreat
open Go.RowKit
set_option linter.unusedVariables false

set_option maxRecDepth 100000 in
set_option maxHeartbeats 2000000 in
theorem copyOfCont_any (q : Con) (w : World) (hn : q.node.length ≤ 1048576) :
    Calls Tryz.prog 112 #[conv q] w fun e w' => e = .returned (conv q) ∧ Below w.heap.size w w' := by
  obtain ⟨id, ap, nd, me, cp⟩ := q
  simp only at hn
  have hs : (bs nd).size ≤ 281474976710656 := by rw [bs_size]; omega
  have HB0 := hide (below_al (below_al (Below.refl _ w) (.cells #[.int .i64 id, .int .i64 ap, .string (bs nd), .int .i64 me, .int .i64 cp] 61)) (.cells #[.int .i64 0, .int .i64 0, .string ByteArray.empty, .int .i64 0, .int .i64 0] 61))
  have P0 := hide ((blk_new w #[.int .i64 id, .int .i64 ap, .string (bs nd), .int .i64 me, .int .i64 cp] 61).al (.cells #[.int .i64 0, .int .i64 0, .string ByteArray.empty, .int .i64 0, .int .i64 0] 61))
  have P1 := hide (show Blk _ (w.heap.size + 1) #[.int .i64 0, .int .i64 0, .string ByteArray.empty, .int .i64 0, .int .i64 0] 61 by have := blk_new (w.alloc (.cells #[.int .i64 id, .int .i64 ap, .string (bs nd), .int .i64 me, .int .i64 cp] 61)) #[.int .i64 0, .int .i64 0, .string ByteArray.empty, .int .i64 0, .int .i64 0] 61; rwa [al_size] at this)
  clear hn
  go_enter Tryz.func112, Tryz.ntmps112
  go_wp2_with fail
  refine (clone_any (bs nd) _ hs).mono ?_
  rintro e w1 ⟨rfl, hb⟩
  have HB1 := hide (below_on (unhide HB0) hb)
  have Q0 := hide ((unhide P0).below hb)
  have Q1 := hide ((unhide P1).below hb)
  clear hb HB0 P0 P1
  have d2 := (unhide Q0).at 2
  have f2 := (unhide Q0).f 2
  simp at d2
  go_upto_region 2 with fail
  have HB2 := hide (below_sc (unhide HB1) w.heap.size 2 (.string (bs nd)) (Nat.le_refl _))
  have R0 := hide (show Blk (w1.setCell ⟨w.heap.size, 2, none⟩ (.string (bs nd))) w.heap.size #[.int .i64 id, .int .i64 ap, .string (bs nd), .int .i64 me, .int .i64 cp] 61 from (unhide Q0).set 2 (.string (bs nd)))
  have R1 := hide ((unhide Q1).other w.heap.size 2 (.string (bs nd)) (by omega))
  generalize w1.setCell ⟨w.heap.size, 2, none⟩ (.string (bs nd)) = w2 at HB2 R0 R1 ⊢
  clear d2 f2 HB1 Q0 Q1
  have a0 := (unhide R0).at 0; have a1 := (unhide R0).at 1; have a2 := (unhide R0).at 2; have a3 := (unhide R0).at 3; have a4 := (unhide R0).at 4
  have c0 := (unhide R1).at 0; have c1 := (unhide R1).at 1; have c2 := (unhide R1).at 2; have c3 := (unhide R1).at 3; have c4 := (unhide R1).at 4
  have f0 := (unhide R1).f 0; have f1 := (unhide R1).f 1; have f2 := (unhide R1).f 2; have f3 := (unhide R1).f 3; have f4 := (unhide R1).f 4
  simp at a0 a1 a2 a3 a4 c0 c1 c2 c3 c4
  go_wp2
  have HB9 := hide (below_sc (below_sc (below_sc (below_sc (below_sc (unhide HB2) (w.heap.size + 1) 0 (.int .i64 id) (by omega)) (w.heap.size + 1) 1 (.int .i64 ap) (by omega)) (w.heap.size + 1) 2 (.string (bs nd)) (by omega)) (w.heap.size + 1) 3 (.int .i64 me) (by omega)) (w.heap.size + 1) 4 (.int .i64 cp) (by omega))
  have R9 := hide (show Blk (((((w2.setCell ⟨w.heap.size + 1, 0, none⟩ (.int .i64 id)).setCell ⟨w.heap.size + 1, 1, none⟩ (.int .i64 ap)).setCell ⟨w.heap.size + 1, 2, none⟩ (.string (bs nd))).setCell ⟨w.heap.size + 1, 3, none⟩ (.int .i64 me)).setCell ⟨w.heap.size + 1, 4, none⟩ (.int .i64 cp)) (w.heap.size + 1) #[.int .i64 id, .int .i64 ap, .string (bs nd), .int .i64 me, .int .i64 cp] 61 from (((((unhide R1).set 0 (.int .i64 id)).set 1 (.int .i64 ap)).set 2 (.string (bs nd))).set 3 (.int .i64 me)).set 4 (.int .i64 cp))
  generalize (((((w2.setCell ⟨w.heap.size + 1, 0, none⟩ (.int .i64 id)).setCell ⟨w.heap.size + 1, 1, none⟩ (.int .i64 ap)).setCell ⟨w.heap.size + 1, 2, none⟩ (.string (bs nd))).setCell ⟨w.heap.size + 1, 3, none⟩ (.int .i64 me)).setCell ⟨w.heap.size + 1, 4, none⟩ (.int .i64 cp)) = W9 at HB9 R9 ⊢
  have z0 := (unhide R9).at 0; have z1 := (unhide R9).at 1; have z2 := (unhide R9).at 2; have z3 := (unhide R9).at 3; have z4 := (unhide R9).at 4
  simp at z0 z1 z2 z3 z4
  refine bodyPost_ret (v := .agg #[.int .i64 id, .int .i64 ap, .string (bs nd), .int .i64 me, .int .i64 cp]) (by simp [results, Tryz.results112, go_sem, z0, z1, z2, z3, z4]) rfl ⟨rfl, unhide HB9⟩
end Go.Proofs.YtjjnmiajkjibeaaGreat

/-
  Containers copied: what the program's copyOfConts answers: the same containers, in memory of their own; a walk over the dump.
-/
namespace Go.Proofs.YtjjnmiajkjibeaaGreat
open Go.RowKit
set_option linter.unusedVariables false

theorem CHas.blk {B n k : Nat} {w : World} {ao : Option Addr} {l : List Con} (h : CHas B w ao n l) (hk : k < n) : ∃ g, ao = some ⟨g, 0, none⟩ ∧ B ≤ g ∧ g < w.heap.size ∧ (∀ j, w.frozen? ⟨g, j, none⟩ = false) ∧ ∀ i (hi : i < l.length), ConAt w g (i * 5) l[i] := by
  obtain ⟨⟨h1, h2⟩, h3⟩ := h
  rcases h3 with e | ⟨g, M, rfl, hB, hE, hc, hn⟩
  · omega
  · rcases h2 with e | ⟨b, off, e, hh⟩
    · omega
    · cases e
      exact ⟨g, rfl, hB, hE, fun j => hc.frozen j, fun i hi => by have := hh i hi; rwa [Nat.zero_add] at this⟩

set_option maxRecDepth 100000 in
set_option maxHeartbeats 4000000 in
theorem copyOfConts_any (ao : Option Addr) (len cap : Nat) (cs : List Con) (w : World) (h : ConRow w ao len cs) (hl : len ≤ 1048576) (hn : ∀ c ∈ cs, c.node.length ≤ 1048576) :
    Calls Tryz.prog 72 #[.slice ao len cap] w fun e w' => ∃ co cd, e = .returned (.slice co cs.length cd) ∧ cs.length ≤ cd ∧ CHas w.heap.size w' co cs.length cs ∧ Below w.heap.size w w' := by
  have HF := hide hn
  have CC := hide (cloneCont_any ao len cap cs w h hl)
  have hll := hide h.1
  clear h hn
  go_enter Tryz.func72, Tryz.ntmps72
  go_wp2_with fail
  refine (unhide CC).mono ?_
  rintro e w9 ⟨v, rfl, ho, hb⟩
  obtain ⟨co, cd, rfl, hcd, hch⟩ := cown_has ho
  obtain ⟨n4, hn4⟩ : ∃ n, cs.length = n := ⟨_, rfl⟩
  rw [hn4] at hch hcd ⊢
  have OC := hide hch
  have HB9 := hide hb
  have HN4 := hide hn4
  have hl4 : n4 ≤ 1048576 := by have := unhide hll; omega
  clear ho hb hch CC hn4
  go_wp2
  go_loopw [4, 5, 10] (fun _ _ i wr => ∃ (q : Nat), q ≤ n4 ∧ i = .int .i64 q ∧ Hid (CHas w.heap.size wr co n4 cs) ∧ Hid (Below w.heap.size w wr)) (fun _ _ i _ => n4 - (intOf i).toNat)
  case atStart => exact ⟨0, Nat.zero_le _, rfl, OC, HB9⟩
  case round =>
    obtain ⟨q, hq, rfl, HC, HB⟩ := hrel
    clear OC HB9
    by_cases hlt : q < n4
    · obtain ⟨g, rfl, hgB, hgE, hfz, hat⟩ := (unhide HC).blk hlt
      have hjl : q < cs.length := by have := unhide HN4; omega
      obtain ⟨c0, c1, c2, c3, c4⟩ := hat q hjl
      have hnm := unhide HF cs[q] (List.getElem_mem hjl)
      obtain ⟨⟨ci, cap, cn, me, cp⟩, hm⟩ : ∃ m, cs[q] = m := ⟨_, rfl⟩
      rw [hm] at c0 c1 c2 c3 c4 hnm
      simp only at c0 c1 c2 c3 c4 hnm
      have HW := hide (below_al (Below.refl _ wr) (.cells #[.int .i64 ci, .int .i64 cap, .string (bs cn), .int .i64 me, .int .i64 cp] 61))
      have XC := hide ((unhide HC).below (unhide HW))
      have XB := hide (below_on (unhide HB) (unhide HW))
      have XA := hide (blk_new wr #[.int .i64 ci, .int .i64 cap, .string (bs cn), .int .i64 me, .int .i64 cp] 61)
      have D0 := hide (cellBel c0 (unhide HW))
      have D1 := hide (cellBel c1 (unhide HW))
      have D2 := hide (cellBel c2 (unhide HW))
      have D3 := hide (cellBel c3 (unhide HW))
      have D4 := hide (cellBel c4 (unhide HW))
      have CL := hide (fun wx => copyOfCont_any ⟨ci, cap, cn, me, cp⟩ wx hnm)
      have j0 : (0 : Int) ≤ q := by omega
      have j1 : (q : Int) < n4 := by omega
      clear hat hm hjl hfz hnm
      obtain ⟨W, hW⟩ : ∃ W, wr.alloc (.cells #[.int .i64 ci, .int .i64 cap, .string (bs cn), .int .i64 me, .int .i64 cp] 61) = W := ⟨_, rfl⟩
      have XA1 := unhide XA
      rw [hW] at XC XB D0 D1 D2 D3 D4 XA1
      have xa0 := (unhide XA).at 0
      have xa1 := (unhide XA).at 1
      have xa2 := (unhide XA).at 2
      have xa3 := (unhide XA).at 3
      have xa4 := (unhide XA).at 4
      simp at xa0 xa1 xa2 xa3 xa4
      have HWW := hide hW
      clear hW HW HC HB XA XA1
      go_wp2_with fail
      refine (unhide CL _).mono ?_
      rintro e w6 ⟨rfl, hb⟩
      rw [unhide HWW] at hb
      have HB6 := hide (below_on (Below.refl _ W) hb)
      clear c0 c1 c2 c3 c4
      have c0 := cellBel (unhide D0) (unhide HB6); have c1 := cellBel (unhide D1) (unhide HB6); have c2 := cellBel (unhide D2) (unhide HB6); have c3 := cellBel (unhide D3) (unhide HB6); have c4 := cellBel (unhide D4) (unhide HB6)
      have s0 := sc_same c0; have s1 := sc_same c1; have s2 := sc_same c2; have s3 := sc_same c3; have s4 := sc_same c4
      obtain ⟨g', e', _, _, hfz, _⟩ := ((unhide XC).below (unhide HB6)).blk hlt
      cases e'
      have z0 := hfz (q * 5); have z1 := hfz (q * 5 + 1); have z2 := hfz (q * 5 + 2); have z3 := hfz (q * 5 + 3); have z4 := hfz (q * 5 + 4)
      clear hb hfz
      go_wp2
      go_roundw
      case rel => exact ⟨q + 1, by omega, by go_num, hide ((unhide XC).below (unhide HB6)), hide (below_on (unhide XB) (unhide HB6))⟩
      case measure => simp [intOf]; omega
    · obtain rfl : q = n4 := by omega
      have j1 : ¬ (q : Int) < q := by omega
      clear hlt
      go_wp2
      go_ret
      rw [unhide HN4]
      exact ⟨co, cd, rfl, hcd, unhide HC, unhide HB⟩
end Go.Proofs.YtjjnmiajkjibeaaGreat
