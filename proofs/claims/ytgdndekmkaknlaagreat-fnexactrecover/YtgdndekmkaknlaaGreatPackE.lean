/-
  Several texts of this claim in one: MarkV, ScS, HeldK, OwnM, OwnC, OwnP (pack.py put them together); each says in its own remark what is proved.
-/
import Derived.Test.YtgdndekmkaknlaaGreatPackD
import Derived.Test.YtgdndekmkaknlaaGreatPackA
import Derived.Test.YtgdndekmkaknlaaGreatStAll
import Derived.Laws.AppendOwn
import Derived.Lib.SliceRun
import Derived.Deep.RegionWith
import Derived.Test.YtgdndekmkaknlaaGreatPackC
/-
  A state that is an answer and owns its memory: what the laws' own markState turns in it, and heldState finds again; walks over the dump.
-/
namespace Go.Proofs.YtgdndekmkaknlaaGreat
open Go.RowKit
set_option linter.unusedVariables false
/-- what is there of a list is no more than its room -/
structure SCap (x : Sls) : Prop where
  q : x.ql ≤ x.qc
  a : x.al ≤ x.ac
  m : x.ml ≤ x.mc
  c : x.cl ≤ x.cc
/-- each list's block has the room that the list says -/
def RmS (B E : Nat) (w : World) (x : Sls) (hs : List AV) : Prop := Own1 B E w 48 4 x.qa x.qc ∧ Own1 B E w 71 3 x.aa x.ac ∧ Own1 B E w 102 4 x.ma x.mc ∧ Own1 B E w 105 5 x.ca x.cc ∧ ∀ v ∈ hs, Own1 B E w 128 5 v.ao v.cap
theorem RmS.map {B E B' E' : Nat} {w w' : World} {x : Sls} {hs : List AV} (h : RmS B E w x hs) (f : ∀ {t : TypeId} {sz n : Nat} {ao : Option Addr}, Own1 B E w t sz ao n → Own1 B' E' w' t sz ao n) : RmS B' E' w' x hs := ⟨f h.1, f h.2.1, f h.2.2.1, f h.2.2.2.1, fun v hv => f (h.2.2.2.2 v hv)⟩
theorem RmS.below {B E : Nat} {w w' : World} {x : Sls} {hs : List AV} (h : RmS B E w x hs) (hb : Below w.heap.size w w') : RmS B E w' x hs := h.map (fun k => k.below hb)
theorem RmS.mono {B E B' E' : Nat} {w : World} {x : Sls} {hs : List AV} (h : RmS B E w x hs) (h1 : B' ≤ B) (h2 : E ≤ E') : RmS B' E' w x hs := h.map (fun k => k.mono h1 h2)
theorem RmS.mks {B E : Nat} {S : Nat → Prop} {w w' : World} {x : Sls} {hs : List AV} (h : RmS B E w x hs) (hm : Mks S w w') : RmS B E w' x hs := h.map (fun k => k.mks hm)
theorem RmS.sc {B E : Nat} {w : World} {x : Sls} {hs : List AV} (h : RmS B E w x hs) (k j : Nat) (v : Value) : RmS B E (w.setCell ⟨k, j, none⟩ v) x hs := h.map (fun o => o.sc k j v)
/-- a state whose lists lie in blocks of their own, from B on and below E -/
structure SAns (B E : Nat) (w : World) (x : Sls) (s : St) (hs : List AV) : Prop where
  row : SRow w x s
  q : Own1 B E w 48 4 x.qa x.ql
  a : Own1 B E w 71 3 x.aa x.al
  m : Own1 B E w 102 4 x.ma x.ml
  c : Own1 B E w 105 5 x.ca x.cl
  av : AVRow w x.aa x.al hs
  heads : Heads w hs s.apps
  asks : ∀ v ∈ hs, Own1 B E w 128 5 v.ao v.len
  apart : hs.Pairwise Apart
  cap : SCap x
  rm : RmS B E w x hs
theorem Heads.below {w w' : World} {hs : List AV} {l : List Appl} (h : Heads w hs l) (hb : Below w.heap.size w w') : Heads w' hs l := ⟨h.1, fun i h1 h2 => let ⟨a, b, c, d⟩ := h.2 i h1 h2; ⟨a, b, c.below hb, d⟩⟩
theorem SAns.below {B E : Nat} {w w' : World} {x : Sls} {s : St} {hs : List AV} (h : SAns B E w x s hs) (hb : Below w.heap.size w w') : SAns B E w' x s hs :=
  ⟨h.row.below hb, h.q.below hb, h.a.below hb, h.m.below hb, h.c.below hb, h.av.below hb, h.heads.below hb, fun v hv => (h.asks v hv).below hb, h.apart, h.cap, h.rm.below hb⟩
theorem SAns.mono {B E B' E' : Nat} {w : World} {x : Sls} {s : St} {hs : List AV} (h : SAns B E w x s hs) (h1 : B' ≤ B) (h2 : E ≤ E') : SAns B' E' w x s hs :=
  ⟨h.row, h.q.mono h1 h2, h.a.mono h1 h2, h.m.mono h1 h2, h.c.mono h1 h2, h.av, h.heads, fun v hv => (h.asks v hv).mono h1 h2, h.apart, h.cap, h.rm.mono h1 h2⟩
/-- what is turned lies outside of it -/
theorem SAns.mks {B E : Nat} {S : Nat → Prop} {w w' : World} {x : Sls} {s : St} {hs : List AV} (h : SAns B E w x s hs) (hm : Mks S w w') (hS : ∀ k, S k → k < B ∨ E ≤ k) : SAns B E w' x s hs := by
  have key : ∀ {t : TypeId} {sz n : Nat} {ao : Option Addr}, Own1 B E w t sz ao n → ∀ k, inR ao n k → ¬ S k := fun ho k hk hs => by
    obtain ⟨h1, h2, _⟩ := ho.lies k hk
    have := hS k hs
    omega
  have hrow : Heads w' hs s.apps := ⟨h.heads.1, fun i h1 h2 => by
    obtain ⟨a, b, c, d⟩ := h.heads.2 i h1 h2
    exact ⟨a, b, c.mks hm (key (h.asks _ (List.getElem_mem h1))), d⟩⟩
  have hav := h.av.mks hm (key h.a)
  refine ⟨⟨h.row.1.mks hm (key h.q), ?_, h.row.2.2.1.mks hm (key h.m), h.row.2.2.2.mks hm (key h.c)⟩, h.q.mks hm, h.a.mks hm, h.m.mks hm, h.c.mks hm, hav, hrow, fun v hv => (h.asks v hv).mks hm, h.apart, h.cap, h.rm.mks hm⟩
  refine ⟨h.row.2.1.1, ?_⟩
  rcases hav.2 with e | ⟨b, off, e, hh⟩
  · exact .inl e
  · refine .inr ⟨b, off, e, fun i hi => ?_⟩
    have hi' : i < hs.length := by rw [h.heads.1]; exact hi
    obtain ⟨a1, a2, a3, a4⟩ := hrow.2 i hi' hi
    obtain ⟨c1, c2, c3⟩ := hh i hi'
    rw [a1] at c1
    rw [a2] at c2
    exact ⟨hs[i].ao, hs[i].len, hs[i].cap, c1, c2, c3, a3, a4⟩
theorem ans_len {w : World} {hs : List AV} {l : List Appl} (h : Heads w hs l) (hf : FitAppl l) : ∀ v ∈ hs, v.len ≤ 1048576 := by
  intro v hv
  obtain ⟨i, hi, rfl⟩ := List.getElem_of_mem hv
  have hi' : i < l.length := by rw [← h.1]; exact hi
  have h1 := (h.2 i hi hi').2.2.1.1
  have h2 := (hf.2 l[i] (List.getElem_mem hi')).2.1
  omega

/-- a state that bears its marks -/
structure SMk (w : World) (x : Sls) (hs : List AV) : Prop where
  q : QRow w x.qa x.ql (marksQ x.ql)
  a : AVRow w x.aa x.al (hsM (1 + 4 * x.ql) hs)
  k : AsksM w (1 + 4 * x.ql) hs
  m : MacRow w x.ma x.ml (marksM (endM (1 + 4 * x.ql) hs) x.ml)
  c : ConRow w x.ca x.cl (marksC (endM (1 + 4 * x.ql) hs + 4 * x.ml) x.cl)
  z : x.ql = 0 ∨ ∃ g, x.qa = some ⟨g, 0, none⟩
theorem SMk.below {w w' : World} {x : Sls} {hs : List AV} (h : SMk w x hs) (hb : Below w.heap.size w w') : SMk w' x hs := ⟨h.q.below hb, h.a.below hb, AsksM.below hb _ _ h.k, h.m.below hb, h.c.below hb, h.z⟩
/-- the number behind all marks of a state -/
def endS (x : Sls) (hs : List AV) : Nat := endM (1 + 4 * x.ql) hs + 4 * x.ml + 5 * x.cl
/-- the blocks of a state's lists -/
def inS (x : Sls) (hs : List AV) (k : Nat) : Prop := inR x.qa x.ql k ∨ (inR x.aa x.al k ∨ ∃ v ∈ hs, inR v.ao v.len k) ∨ inR x.ma x.ml k ∨ inR x.ca x.cl k
theorem SAns.ins {B E : Nat} {w : World} {x : Sls} {s : St} {hs : List AV} (h : SAns B E w x s hs) : ∀ k, inS x hs k → B ≤ k ∧ k < E := by
  rintro k (hk | (hk | ⟨v, hv, hk⟩) | hk | hk)
  · exact ⟨(h.q.lies k hk).1, (h.q.lies k hk).2.1⟩
  · exact ⟨(h.a.lies k hk).1, (h.a.lies k hk).2.1⟩
  · exact ⟨((h.asks v hv).lies k hk).1, ((h.asks v hv).lies k hk).2.1⟩
  · exact ⟨(h.m.lies k hk).1, (h.m.lies k hk).2.1⟩
  · exact ⟨(h.c.lies k hk).1, (h.c.lies k hk).2.1⟩
structure SLim (x : Sls) (hs : List AV) : Prop where
  q : x.ql ≤ 1048576
  a : x.al ≤ 1048576
  m : x.ml ≤ 1048576
  c : x.cl ≤ 1048576
  k : ∀ v ∈ hs, v.len ≤ 1048576
  n : hs.length = x.al
theorem SAns.lim {B E : Nat} {w : World} {x : Sls} {s : St} {hs : List AV} (h : SAns B E w x s hs) (hf : FitSt s) : SLim x hs :=
  ⟨by have := h.row.1.1; have := hf.1.1; omega, by have := h.row.2.1.1; have := hf.2.1.1; omega, by have := h.row.2.2.1.1; have := hf.2.2.1.1; omega, by have := h.row.2.2.2.1; have := hf.2.2.2.1; omega, ans_len h.heads hf.2.1, h.av.1.symm⟩
theorem SLim.e {x : Sls} {hs : List AV} (h : SLim x hs) : 1 + 4 * x.ql ≤ endM (1 + 4 * x.ql) hs ∧ endM (1 + 4 * x.ql) hs ≤ 10000000000000 := by
  have h1 := endM_ge hs (1 + 4 * x.ql)
  have h2 := endM_le hs (1 + 4 * x.ql) 1048576 h.k
  have h3 := h.q
  have h4 : hs.length * (2 + 5 * 1048576) ≤ 1048576 * (2 + 5 * 1048576) := Nat.mul_le_mul_right _ (by have := h.n; have := h.a; omega)
  omega

set_option maxRecDepth 100000 in
set_option maxHeartbeats 2000000 in
theorem markState_ans {B E : Nat} {x : Sls} {s : St} {hs : List AV} {w : World} (h : SAns B E w x s hs) (hE : E ≤ w.heap.size) (hl : SLim x hs) :
    Calls Tryz.prog 11 #[sv x s, .int .i64 1] w fun e w' => e = .returned (.int .i64 (endS x hs : Int)) ∧ SMk w' x hs ∧ Mks (inS x hs) w w' := by
  have hb0 := below_al (Below.refl _ w) (.cells (svc x s) 29)
  have P0 := hide (blk_new w (svc x s) 29)
  have HA := hide (h.below hb0)
  have HG0 := hide (show Mks (inS x hs) w _ from .of_below hb0)
  have hlim := hl.e
  have hsq := hl.q
  have hsa := hl.a
  have hsm := hl.m
  have hsc := hl.c
  have HK := hide hl.k
  have hIN := hide h.ins
  have HZ := hide (show x.ql = 0 ∨ ∃ g, x.qa = some ⟨g, 0, none⟩ by rcases h.q with e | ⟨g, M, e, _⟩; exact .inl e; exact .inr ⟨g, e⟩)
  have hES : endS x hs = endM (1 + 4 * x.ql) hs + 4 * x.ml + 5 * x.cl := rfl
  obtain ⟨e1, he1⟩ : ∃ e, endM (1 + 4 * x.ql) hs = e := ⟨_, rfl⟩
  have HE1 := hide he1
  rw [he1] at hlim hES
  rw [hES]
  clear h hb0 hl he1 hES
  obtain ⟨qs, clock, epoch, next, serial, apps, ms, cs⟩ := s
  obtain ⟨qa, ql, qc, aa, al, ac, ma, ml, mc, ca, cl, cc⟩ := x
  simp only at *
  have CQ := hide (markQueueS_own (c := qc) (unhide HA).q hsq)
  go_enter Tryz.func11, Tryz.ntmps11
  go_wp2_with fail
  refine (unhide CQ).mono ?_
  rintro e w1 ⟨rfl, hrow, hm1⟩
  have hin : ∀ k, inR qa ql k → k < w.heap.size := fun k hk => by have := unhide hIN k (.inl hk); omega
  have P1 := hide (hm1.blk (unhide P0) (fun hk => by have := hin _ hk; omega))
  have R1 := hide hrow
  have OQ := hide ((unhide HA).q.mks hm1)
  have OA := hide ((unhide HA).a.mks hm1)
  have OM := hide ((unhide HA).m.mks hm1)
  have OC := hide ((unhide HA).c.mks hm1)
  have AVR := hide ((unhide HA).av.mks hm1 ((unhide HA).a.apart (unhide HA).q (by decide)))
  have OK := hide (fun v hv => ((unhide HA).asks v hv).mks hm1)
  have AP := hide (unhide HA).apart
  have HG1 := hide ((unhide HG0).trans (hm1.mono (fun k hk => .inl hk)))
  have p5 := (unhide P1).at 5
  simp at p5
  have CA := hide (by have := markAppS_own (c := ac) (1 + 4 * ql) hs (unhide OA) (unhide AVR) (fun v hv => ⟨unhide OK v hv, unhide HK v hv⟩) (unhide AP) hsa (by omega) (by have := unhide HE1; omega); rw [unhide HE1, show ((1 + 4 * ql : Nat) : Int) = 1 + 4 * (ql : Int) by omega] at this; exact this)
  clear hrow hm1 P0 CQ HG0 HA hin
  go_wp2_with fail
  refine (unhide CA).mono ?_
  rintro e w2 ⟨rfl, hrow, hask, hm2⟩
  have hin : ∀ k, (inR aa al k ∨ ∃ v ∈ hs, inR v.ao v.len k) → k < w.heap.size := fun k hk => by have := unhide hIN k (.inr (.inl hk)); omega
  have P2 := hide (hm2.blk (unhide P1) (fun hk => by have := hin _ hk; omega))
  have R2 := hide ((unhide R1).mks hm2 (fun k hk hk' => by
    rcases hk' with h | ⟨v, hv, h⟩
    · exact (unhide OQ).apart (unhide OA) (by decide) k hk h
    · exact (unhide OQ).apart (unhide OK v hv) (by decide) k hk h))
  have A2 := hide hrow
  have K2 := hide hask
  have OQ2 := hide ((unhide OQ).mks hm2)
  have OA2 := hide ((unhide OA).mks hm2)
  have OM2 := hide ((unhide OM).mks hm2)
  have OC2 := hide ((unhide OC).mks hm2)
  have OK2 := hide (fun v hv => (unhide OK v hv).mks hm2)
  have HG2 := hide ((unhide HG1).trans (hm2.mono (fun k hk => .inr (.inl hk))))
  have p6 := (unhide P2).at 6
  simp at p6
  have CM := hide (markMachineS_own (c := mc) e1 (unhide OM2) hsm (by omega) (by omega))
  clear hrow hask hm2 P1 CA HG1 p5 R1 OQ OA OM OC OK AVR hin
  go_wp2_with fail
  refine (unhide CM).mono ?_
  rintro e w3 ⟨rfl, hrow, hm3⟩
  have hin : ∀ k, inR ma ml k → k < w.heap.size := fun k hk => by have := unhide hIN k (.inr (.inr (.inl hk))); omega
  have P3 := hide (hm3.blk (unhide P2) (fun hk => by have := hin _ hk; omega))
  have R3 := hide ((unhide R2).mks hm3 ((unhide OQ2).apart (unhide OM2) (by decide)))
  have A3 := hide ((unhide A2).mks hm3 ((unhide OA2).apart (unhide OM2) (by decide)))
  have K3 := hide ((unhide K2).mks hm3 _ _ (fun v hv => (unhide OK2 v hv).apart (unhide OM2) (by decide)))
  have M3 := hide hrow
  have OQ3 := hide ((unhide OQ2).mks hm3)
  have OA3 := hide ((unhide OA2).mks hm3)
  have OM3 := hide ((unhide OM2).mks hm3)
  have OC3 := hide ((unhide OC2).mks hm3)
  have OK3 := hide (fun v hv => (unhide OK2 v hv).mks hm3)
  have HG3 := hide ((unhide HG2).trans (hm3.mono (fun k hk => .inr (.inr (.inl hk)))))
  have p7 := (unhide P3).at 7
  simp at p7
  have CC := hide (by have := markContS_own (c := cc) (e1 + 4 * ml) (unhide OC3) hsc (by omega) (by omega); rw [show ((e1 + 4 * ml : Nat) : Int) = (e1 : Int) + 4 * (ml : Int) by omega] at this; exact this)
  clear hrow hm3 P2 CM HG2 p6 R2 A2 K2 OQ2 OA2 OM2 OC2 OK2 hin
  go_wp2_with fail
  refine (unhide CC).mono ?_
  rintro e w4 ⟨rfl, hrow, hm4⟩
  have R4 := hide ((unhide R3).mks hm4 ((unhide OQ3).apart (unhide OC3) (by decide)))
  have A4 := hide ((unhide A3).mks hm4 ((unhide OA3).apart (unhide OC3) (by decide)))
  have K4 := hide ((unhide K3).mks hm4 _ _ (fun v hv => (unhide OK3 v hv).apart (unhide OC3) (by decide)))
  have M4 := hide ((unhide M3).mks hm4 ((unhide OM3).apart (unhide OC3) (by decide)))
  have C4 := hide hrow
  have HG4 := hide ((unhide HG3).trans (hm4.mono (fun k hk => .inr (.inr (.inr hk)))))
  clear hrow hm4 P3 CC HG3 p7 R3 A3 K3 M3 OQ3 OA3 OM3 OC3 OK3
  go_wp2
  go_ret
  refine ⟨?_, ⟨unhide R4, unhide A4, unhide K4, ?_, ?_, unhide HZ⟩, unhide HG4⟩
  · refine ret_int ?_
    omega
  · show MacRow _ _ _ (marksM (endM (1 + 4 * ql) hs) ml)
    rw [unhide HE1]
    exact unhide M4
  · show ConRow _ _ _ (marksC (endM (1 + 4 * ql) hs + 4 * ml) cl)
    rw [unhide HE1]
    exact unhide C4

set_option maxRecDepth 100000 in
set_option maxHeartbeats 2000000 in
theorem heldState_ans {x : Sls} {hs : List AV} {w : World} (s : St) (h : SMk w x hs) (hl : SLim x hs) :
    Calls Tryz.prog 12 #[sv x s, .int .i64 1] w fun e w' => e = .returned (.int .i64 (endS x hs : Int)) ∧ Below w.heap.size w w' := by
  have hb0 := below_al (Below.refl _ w) (.cells (svc x s) 29)
  have P0 := hide (blk_new w (svc x s) 29)
  have HA := hide (h.below hb0)
  have HB0 := hide hb0
  have hlim := hl.e
  have hsq := hl.q
  have hsa := hl.a
  have hsm := hl.m
  have hsc := hl.c
  have HK := hide hl.k
  have hES : endS x hs = endM (1 + 4 * x.ql) hs + 4 * x.ml + 5 * x.cl := rfl
  obtain ⟨e1, he1⟩ : ∃ e, endM (1 + 4 * x.ql) hs = e := ⟨_, rfl⟩
  have HE1 := hide he1
  rw [he1] at hlim hES
  rw [hES]
  clear h hb0 hl he1 hES
  obtain ⟨qs, clock, epoch, next, serial, apps, ms, cs⟩ := s
  obtain ⟨qa, ql, qc, aa, al, ac, ma, ml, mc, ca, cl, cc⟩ := x
  simp only at *
  have HN0 : ¬ (1 + 4 * (ql : Int)) < 0 := by omega
  have HN1 : ¬ (e1 : Int) < 0 := by omega
  have HN2 : ¬ ((e1 : Int) + 4 * (ml : Int)) < 0 := by omega
  have HN3 : ¬ ((e1 : Int) + 4 * (ml : Int) + 5 * (cl : Int)) < 0 := by omega
  have CQ : ∀ wx, Below w.heap.size w wx → SMk wx ⟨qa, ql, qc, aa, al, ac, ma, ml, mc, ca, cl, cc⟩ hs → Calls Tryz.prog 28 #[.slice qa ql qc, .int .i64 1] wx fun e w' => e = .returned (.int .i64 (1 + 4 * (ql : Int))) ∧ Below wx.heap.size wx w' := fun wx _ hx => by
    have hq := hx.q
    have hz := hx.z
    simp only at hq hz
    rcases hz with hz | ⟨g, rfl⟩
    · subst hz
      refine (heldQueueS_zero qa qc wx).mono ?_
      rintro e w' ⟨rfl, rfl⟩
      exact ⟨rfl, Below.refl _ _⟩
    · exact heldQueueS_any g ql qc wx hq hsq
  have CQ' := hide CQ
  clear CQ
  go_enter Tryz.func12, Tryz.ntmps12
  go_wp2_with fail
  refine (unhide CQ' _ (unhide HB0) (unhide HA)).mono ?_
  rintro e w1 ⟨rfl, hb⟩
  have P1 := hide ((unhide P0).below hb)
  have HA1 := hide ((unhide HA).below hb)
  have HB1 := hide (below_on (unhide HB0) hb)
  have p5 := (unhide P1).at 5
  simp at p5
  have CA := hide (by have := heldAppS_any aa al ac (1 + 4 * ql) hs w1 (unhide HA1).a (unhide HA1).k hsa (unhide HK) (by omega) (by have := unhide HE1; omega); rw [unhide HE1, show ((1 + 4 * ql : Nat) : Int) = 1 + 4 * (ql : Int) by omega] at this; exact this)
  clear hb P0 HA HB0 CQ'
  go_wp2_with fail
  refine (unhide CA).mono ?_
  rintro e w2 ⟨rfl, hb⟩
  have P2 := hide ((unhide P1).below hb)
  have HA2 := hide ((unhide HA1).below hb)
  have HB2 := hide (below_on (unhide HB1) hb)
  have p6 := (unhide P2).at 6
  simp at p6
  have CM := hide (by have hmm := (unhide HA2).m; simp only [unhide HE1] at hmm; exact heldMachineS_any ma ml mc e1 w2 hmm hsm (by omega) (by omega))
  clear hb P1 HA1 HB1 CA p5
  go_wp2_with fail
  refine (unhide CM).mono ?_
  rintro e w3 ⟨rfl, hb⟩
  have P3 := hide ((unhide P2).below hb)
  have HA3 := hide ((unhide HA2).below hb)
  have HB3 := hide (below_on (unhide HB2) hb)
  have p7 := (unhide P3).at 7
  simp at p7
  have CC := hide (by have hmm := (unhide HA3).c; simp only [unhide HE1] at hmm; have := heldContS_any ca cl cc (e1 + 4 * ml) w3 hmm hsc (by omega) (by omega); rw [show ((e1 + 4 * ml : Nat) : Int) = (e1 : Int) + 4 * (ml : Int) by omega] at this; exact this)
  clear hb P2 HA2 HB2 CM p6
  go_wp2_with fail
  refine (unhide CC).mono ?_
  rintro e w4 ⟨rfl, hb⟩
  have HB4 := hide (below_on (unhide HB3) hb)
  clear hb P3 HA3 HB3 CC p7
  go_wp2
  go_ret
  refine ⟨ret_int ?_, unhide HB4⟩
  omega
end Go.Proofs.YtgdndekmkaknlaaGreat

/-
  A cell written with what stands there: the same world.
-/
namespace Go.Proofs.YtgdndekmkaknlaaGreat
open Go.RowKit
set_option linter.unusedVariables false
theorem set_idemS {arr : Array Value} {j : Nat} {x : Value} (h : arr[j]? = some x) : arr.setIfInBounds j x = arr := by
  apply Array.ext
  · simp
  · intro i h1 h2
    rw [Array.getElem_setIfInBounds]
    split
    · rename_i e
      subst e
      rw [Array.getElem?_eq_getElem h2] at h
      exact (Option.some.inj h).symm
    · rfl
/-- a cell that is written with what stands there: nothing turns -/
theorem sc_same {w : World} {g j : Nat} {x : Value} (h : w.cell? ⟨g, j, none⟩ = some x) : w.setCell ⟨g, j, none⟩ x = w := by
  cases ho : w.heap[g]? with
  | none => simp [World.cell?, ho] at h
  | some o =>
    cases o with
    | cells cur t fr =>
      have hx : cur[j]? = some x := by simpa [World.cell?, ho] using h
      rw [setCell_eq_setRow w g j cur t fr x ho, set_idemS hx]
      exact setRow_self w g cur t fr ho
    | _ => simp [World.cell?, ho] at h
end Go.Proofs.YtgdndekmkaknlaaGreat

/-
  Words on worlds that calls and stores behind them keep; all that was there stands.
-/
namespace Go.Proofs.YtgdndekmkaknlaaGreat
open Go.RowKit
set_option linter.unusedVariables false
/-- what a word on worlds bears -/
structure Holds (S : World → Prop) (w0 : World) (n : Nat) : Prop where
  call : ∀ {wx wy : World}, S wx → Below wx.heap.size wx wy → S wy
  set : ∀ {wx : World} (k j : Nat) (v : Value), S wx → n ≤ k → S (wx.setCell ⟨k, j, none⟩ v)
  size : ∀ {wx : World}, S wx → n ≤ wx.heap.size
  below : ∀ {wx : World}, S wx → Below w0.heap.size w0 wx
theorem Holds.drew {S : World → Prop} {w0 : World} {n : Nat} (h : Holds S w0 n) {wx : World} (hs : S wx) : S wx.drew := h.call hs (Below.refl _ _).drew
theorem Holds.al {S : World → Prop} {w0 : World} {n : Nat} (h : Holds S w0 n) {wx : World} (hs : S wx) (o : Obj) : S (wx.alloc o) := h.call hs (below_al (Below.refl _ _) o)
/-- all that was there stands -/
def Kp (w1 wx : World) : Prop := Below w1.heap.size w1 wx
theorem kp_holds (w1 : World) : Holds (Kp w1) w1 w1.heap.size where
  call := fun h hb => below_on h hb
  set := fun k j v h hk => below_sc h _ _ _ hk
  size := fun h => h.size
  below := fun h => h
theorem Kp.cell {w1 wx : World} (h : Kp w1 wx) {b j : Nat} {v : Value} (hc : w1.cell? ⟨b, j, none⟩ = some v) : wx.cell? ⟨b, j, none⟩ = some v := (Below.cell h (p := ⟨b, j, none⟩) (cell_lt hc)).trans hc
theorem Kp.new (w1 : World) : Kp w1 w1 := Below.refl _ _
end Go.Proofs.YtgdndekmkaknlaaGreat

/-
  Lists of machines that own their memory; the library's Clone of them (mkown.py wrote this); walks over the dump.
-/
namespace Go.Proofs.YtgdndekmkaknlaaGreat
open Go.RowKit
set_option linter.unusedVariables false
abbrev mcell (q : Mac) : List Value := [.string (bs q.name), .int .i64 q.mem, .int .i64 q.cpu, .int .i64 q.seen]
def mcells : List Mac → List Value
  | [] => []
  | q :: t => mcell q ++ mcells t
theorem mcells_len : ∀ l : List Mac, (mcells l).length = l.length * 4
  | [] => rfl
  | q :: t => by rw [mcells, List.length_append, mcells_len t]; simp; omega
theorem mcells_at : ∀ (l : List Mac) (i : Nat) (h : i < l.length), (mcells l)[i * 4]? = some (.string (bs l[i].name)) ∧ (mcells l)[i * 4 + 1]? = some (.int .i64 l[i].mem) ∧ (mcells l)[i * 4 + 2]? = some (.int .i64 l[i].cpu) ∧ (mcells l)[i * 4 + 3]? = some (.int .i64 l[i].seen)
  | q :: t, 0, _ => ⟨rfl, rfl, rfl, rfl⟩
  | q :: t, i + 1, h => by
    have e := mcells_at t i (by simpa using h)
    have k : ∀ j, (mcells (q :: t))[(i + 1) * 4 + j]? = (mcells t)[i * 4 + j]? := fun j => by
      rw [mcells, show (i + 1) * 4 + j = (mcell q).length + (i * 4 + j) by simp; omega, List.getElem?_append_right (by omega)]
      congr 1
      omega
    have k0 := k 0
    simp only [Nat.add_zero] at k0
    rw [k0, k 1, k 2, k 3]
    simpa using e
theorem mcells_row {w : World} {b off len : Nat} {l : List Mac} (h : MacRow w (some ⟨b, off, none⟩) len l) : ∀ j u, (mcells l)[j]? = some u → w.cell? ⟨b, off + j, none⟩ = some u := fun j u hj => by
  have hjl : j < l.length * 4 := by rw [← mcells_len]; exact (List.getElem?_eq_some_iff.1 hj).1
  obtain ⟨h1, h2⟩ := h
  rcases h2 with h2 | ⟨b', off', e, h4⟩
  · omega
  · cases e
    have hi : j / 4 < l.length := by omega
    obtain ⟨a0, a1, a2, a3⟩ := mcells_at l (j / 4) hi
    obtain ⟨c0, c1, c2, c3⟩ := h4 (j / 4) hi
    rcases (show j % 4 = 0 ∨ j % 4 = 1 ∨ j % 4 = 2 ∨ j % 4 = 3 by omega) with e | e | e | e
    · rw [show j = j / 4 * 4 by omega] at hj ⊢; rw [a0] at hj; cases hj; exact c0
    · rw [show j = j / 4 * 4 + 1 by omega] at hj ⊢; rw [a1] at hj; cases hj; rw [← Nat.add_assoc]; exact c1
    · rw [show j = j / 4 * 4 + 2 by omega] at hj ⊢; rw [a2] at hj; cases hj; rw [← Nat.add_assoc]; exact c2
    · rw [show j = j / 4 * 4 + 3 by omega] at hj ⊢; rw [a3] at hj; cases hj; rw [← Nat.add_assoc]; exact c3
theorem mcells_one : ∀ (l : List Mac), ∀ u ∈ mcells l, u.oneCell' = true
  | [], u, h => by simp [mcells] at h
  | q :: t, u, h => by
    rw [mcells, List.mem_append] at h
    rcases h with h | h
    · simp at h
      rcases h with rfl | rfl | rfl | rfl <;> rfl
    · exact mcells_one t u h
/-- v is a list of these machines, in memory of its own from block B on -/
def MOwn (B : Nat) (w : World) (v : Value) (l : List Mac) : Prop := w.ownsRow B 102 4 v l.length (mcells l)
theorem mown_empty (w : World) : w.alloc (.cells #[] 102) |>.ownsRow w.heap.size 102 4 (.slice (some ⟨w.heap.size, 0, none⟩) 0 0) 0 [] :=
  ⟨rfl, .inr ⟨w.heap.size, 0, #[], rfl, Nat.le_refl _, by show (w.heap.push _)[w.heap.size]? = _; simp, Nat.le_refl _, by unfold maxLen; omega, rfl, rfl⟩⟩
theorem mown_base {w : World} {B B' : Nat} {v : Value} {l : List Mac} (h : MOwn B w v l) (hb : B' ≤ B) : MOwn B' w v l := by
  obtain ⟨h1, h2⟩ := h
  refine ⟨h1, ?_⟩
  rcases h2 with h2 | ⟨g, cap, cur, a, b, c⟩
  · exact .inl h2
  · exact .inr ⟨g, cap, cur, a, Nat.le_trans hb b, c⟩
theorem mown_row {w : World} {B : Nat} {v : Value} {l : List Mac} (h : MOwn B w v l) : ∃ ao cap, v = .slice ao l.length cap ∧ MacRow w ao l.length l ∧ l.length ≤ cap ∧ (l ≠ [] → ∃ g cur, ao = some ⟨g, 0, none⟩ ∧ B ≤ g ∧ w.heap[g]? = some (.cells cur 102 (0, 0)) ∧ cur.size = cap * 4) := by
  rcases h.2 with ⟨rfl, h0⟩ | ⟨g, cap, cur, rfl, h1, h2, h3, h4, h5, h6⟩
  · exact ⟨none, 0, by rw [h0], ⟨rfl, .inl h0⟩, by omega, fun hn => absurd (List.length_eq_zero_iff.1 h0) hn⟩
  · refine ⟨some ⟨g, 0, none⟩, cap, rfl, ⟨rfl, .inr ⟨g, 0, rfl, fun i hi => ?_⟩⟩, h3, fun _ => ⟨g, cur, rfl, h1, h2, h5⟩⟩
    obtain ⟨a, b, c, d⟩ := mcells_at l i hi
    have k : ∀ j (v : Value), j < l.length * 4 → (mcells l)[j]? = some v → w.cell? ⟨g, j, none⟩ = some v := fun j v hj hv => by
      rw [← h6, List.getElem?_take_of_lt hj] at hv
      simp [World.cell?, h2]
      simpa using hv
    unfold MacAt
    rw [Nat.zero_add]
    exact ⟨k _ _ (by omega) a, k _ _ (by omega) b, k _ _ (by omega) c, k _ _ (by omega) d⟩
theorem Tryz.infoMachine : (Tryz.prog.info? 102).map (fun i => (i.zero, i.size, i.bytes)) = some (some (.agg #[.string ByteArray.empty, .int .i64 0, .int .i64 0, .int .i64 0]), 4, 40) := by kernel_rfl

end Go.Proofs.YtgdndekmkaknlaaGreat

/-
  Lists of containers that own their memory; the library's Clone of them (mkown.py wrote this); walks over the dump.
-/
namespace Go.Proofs.YtgdndekmkaknlaaGreat
open Go.RowKit
set_option linter.unusedVariables false
abbrev ccell (q : Con) : List Value := [.int .i64 q.id, .int .i64 q.app, .string (bs q.node), .int .i64 q.mem, .int .i64 q.cpu]
def ccells : List Con → List Value
  | [] => []
  | q :: t => ccell q ++ ccells t
theorem ccells_app (a : List Con) (q : Con) : ccells (a ++ [q]) = ccells a ++ ccell q := by
  induction a with
  | nil => rfl
  | cons x t ih => rw [List.cons_append, ccells, ccells, ih, List.append_assoc]
theorem ccells_len : ∀ l : List Con, (ccells l).length = l.length * 5
  | [] => rfl
  | q :: t => by rw [ccells, List.length_append, ccells_len t]; simp; omega
theorem ccells_at : ∀ (l : List Con) (i : Nat) (h : i < l.length), (ccells l)[i * 5]? = some (.int .i64 l[i].id) ∧ (ccells l)[i * 5 + 1]? = some (.int .i64 l[i].app) ∧ (ccells l)[i * 5 + 2]? = some (.string (bs l[i].node)) ∧ (ccells l)[i * 5 + 3]? = some (.int .i64 l[i].mem) ∧ (ccells l)[i * 5 + 4]? = some (.int .i64 l[i].cpu)
  | q :: t, 0, _ => ⟨rfl, rfl, rfl, rfl, rfl⟩
  | q :: t, i + 1, h => by
    have e := ccells_at t i (by simpa using h)
    have k : ∀ j, (ccells (q :: t))[(i + 1) * 5 + j]? = (ccells t)[i * 5 + j]? := fun j => by
      rw [ccells, show (i + 1) * 5 + j = (ccell q).length + (i * 5 + j) by simp; omega, List.getElem?_append_right (by omega)]
      congr 1
      omega
    have k0 := k 0
    simp only [Nat.add_zero] at k0
    rw [k0, k 1, k 2, k 3, k 4]
    simpa using e
theorem ccells_row {w : World} {b off len : Nat} {l : List Con} (h : ConRow w (some ⟨b, off, none⟩) len l) : ∀ j u, (ccells l)[j]? = some u → w.cell? ⟨b, off + j, none⟩ = some u := fun j u hj => by
  have hjl : j < l.length * 5 := by rw [← ccells_len]; exact (List.getElem?_eq_some_iff.1 hj).1
  obtain ⟨h1, h2⟩ := h
  rcases h2 with h2 | ⟨b', off', e, h4⟩
  · omega
  · cases e
    have hi : j / 5 < l.length := by omega
    obtain ⟨a0, a1, a2, a3, a4⟩ := ccells_at l (j / 5) hi
    obtain ⟨c0, c1, c2, c3, c4⟩ := h4 (j / 5) hi
    rcases (show j % 5 = 0 ∨ j % 5 = 1 ∨ j % 5 = 2 ∨ j % 5 = 3 ∨ j % 5 = 4 by omega) with e | e | e | e | e
    · rw [show j = j / 5 * 5 by omega] at hj ⊢; rw [a0] at hj; cases hj; exact c0
    · rw [show j = j / 5 * 5 + 1 by omega] at hj ⊢; rw [a1] at hj; cases hj; rw [← Nat.add_assoc]; exact c1
    · rw [show j = j / 5 * 5 + 2 by omega] at hj ⊢; rw [a2] at hj; cases hj; rw [← Nat.add_assoc]; exact c2
    · rw [show j = j / 5 * 5 + 3 by omega] at hj ⊢; rw [a3] at hj; cases hj; rw [← Nat.add_assoc]; exact c3
    · rw [show j = j / 5 * 5 + 4 by omega] at hj ⊢; rw [a4] at hj; cases hj; rw [← Nat.add_assoc]; exact c4
theorem ccells_one : ∀ (l : List Con), ∀ u ∈ ccells l, u.oneCell' = true
  | [], u, h => by simp [ccells] at h
  | q :: t, u, h => by
    rw [ccells, List.mem_append] at h
    rcases h with h | h
    · simp at h
      rcases h with rfl | rfl | rfl | rfl | rfl <;> rfl
    · exact ccells_one t u h
/-- v is a list of these containers, in memory of its own from block B on -/
def COwn (B : Nat) (w : World) (v : Value) (l : List Con) : Prop := w.ownsRow B 105 5 v l.length (ccells l)
theorem cown_nil (B : Nat) (w : World) : COwn B w (.slice none 0 0) [] := World.ownsRow_nil _ _ _ _
theorem cown_empty (w : World) : w.alloc (.cells #[] 105) |>.ownsRow w.heap.size 105 5 (.slice (some ⟨w.heap.size, 0, none⟩) 0 0) 0 [] :=
  ⟨rfl, .inr ⟨w.heap.size, 0, #[], rfl, Nat.le_refl _, by show (w.heap.push _)[w.heap.size]? = _; simp, Nat.le_refl _, by unfold maxLen; omega, rfl, rfl⟩⟩
theorem cown_below {w w' : World} {B : Nat} {v : Value} {l : List Con} (h : COwn B w v l) (hb : Below w.heap.size w w') : COwn B w' v l :=
  World.ownsRow.kept h (grownBy_below (grownBy_refl w none) hb) (by by_cases e : v.ownBlock = none; exact .inl e; exact .inr e)
theorem cown_base {w : World} {B B' : Nat} {v : Value} {l : List Con} (h : COwn B w v l) (hb : B' ≤ B) : COwn B' w v l := by
  obtain ⟨h1, h2⟩ := h
  refine ⟨h1, ?_⟩
  rcases h2 with h2 | ⟨g, cap, cur, a, b, c⟩
  · exact .inl h2
  · exact .inr ⟨g, cap, cur, a, Nat.le_trans hb b, c⟩
theorem cown_row {w : World} {B : Nat} {v : Value} {l : List Con} (h : COwn B w v l) : ∃ ao cap, v = .slice ao l.length cap ∧ ConRow w ao l.length l ∧ l.length ≤ cap ∧ (l ≠ [] → ∃ g cur, ao = some ⟨g, 0, none⟩ ∧ B ≤ g ∧ w.heap[g]? = some (.cells cur 105 (0, 0)) ∧ cur.size = cap * 5) := by
  rcases h.2 with ⟨rfl, h0⟩ | ⟨g, cap, cur, rfl, h1, h2, h3, h4, h5, h6⟩
  · exact ⟨none, 0, by rw [h0], ⟨rfl, .inl h0⟩, by omega, fun hn => absurd (List.length_eq_zero_iff.1 h0) hn⟩
  · refine ⟨some ⟨g, 0, none⟩, cap, rfl, ⟨rfl, .inr ⟨g, 0, rfl, fun i hi => ?_⟩⟩, h3, fun _ => ⟨g, cur, rfl, h1, h2, h5⟩⟩
    obtain ⟨a, b, c, d, e⟩ := ccells_at l i hi
    have k : ∀ j (v : Value), j < l.length * 5 → (ccells l)[j]? = some v → w.cell? ⟨g, j, none⟩ = some v := fun j v hj hv => by
      rw [← h6, List.getElem?_take_of_lt hj] at hv
      simp [World.cell?, h2]
      simpa using hv
    unfold ConAt
    rw [Nat.zero_add]
    exact ⟨k _ _ (by omega) a, k _ _ (by omega) b, k _ _ (by omega) c, k _ _ (by omega) d, k _ _ (by omega) e⟩
theorem cown_other {w : World} {B : Nat} {v : Value} {l : List Con} (h : COwn B w v l) (k j : Nat) (x : Value) (hk : k < B) : COwn B (w.setCell ⟨k, j, none⟩ x) v l := by
  obtain ⟨h1, h2⟩ := h
  refine ⟨h1, ?_⟩
  rcases h2 with h2 | ⟨g, cap, cur, a, b, c, d⟩
  · exact .inl h2
  · exact .inr ⟨g, cap, cur, a, b, (heap_setCell_other w ⟨k, j, none⟩ g x (show g ≠ k by omega)).trans c, d⟩
theorem Tryz.infoCont : (Tryz.prog.info? 105).map (fun i => (i.zero, i.size, i.bytes)) = some (some (.agg #[.int .i64 0, .int .i64 0, .string ByteArray.empty, .int .i64 0, .int .i64 0]), 5, 48) := by kernel_rfl

end Go.Proofs.YtgdndekmkaknlaaGreat

/-
  Lists of applications, by their heads that own their memory; the library's Clone of them (mkown.py wrote this); walks over the dump.
-/
namespace Go.Proofs.YtgdndekmkaknlaaGreat
open Go.RowKit
set_option linter.unusedVariables false
abbrev pcell (q : AV) : List Value := [.int .i64 q.id, .string (bs q.queue), .slice q.ao q.len q.cap]
def pcells : List AV → List Value
  | [] => []
  | q :: t => pcell q ++ pcells t
theorem pcells_app (a : List AV) (q : AV) : pcells (a ++ [q]) = pcells a ++ pcell q := by
  induction a with
  | nil => rfl
  | cons x t ih => rw [List.cons_append, pcells, pcells, ih, List.append_assoc]
theorem pcells_len : ∀ l : List AV, (pcells l).length = l.length * 3
  | [] => rfl
  | q :: t => by rw [pcells, List.length_append, pcells_len t]; simp; omega
theorem pcells_at : ∀ (l : List AV) (i : Nat) (h : i < l.length), (pcells l)[i * 3]? = some (.int .i64 l[i].id) ∧ (pcells l)[i * 3 + 1]? = some (.string (bs l[i].queue)) ∧ (pcells l)[i * 3 + 2]? = some (.slice l[i].ao l[i].len l[i].cap)
  | q :: t, 0, _ => ⟨rfl, rfl, rfl⟩
  | q :: t, i + 1, h => by
    have e := pcells_at t i (by simpa using h)
    have k : ∀ j, (pcells (q :: t))[(i + 1) * 3 + j]? = (pcells t)[i * 3 + j]? := fun j => by
      rw [pcells, show (i + 1) * 3 + j = (pcell q).length + (i * 3 + j) by simp; omega, List.getElem?_append_right (by omega)]
      congr 1
      omega
    have k0 := k 0
    simp only [Nat.add_zero] at k0
    rw [k0, k 1, k 2]
    simpa using e
theorem pcells_row {w : World} {b off len : Nat} {l : List AV} (h : AVRow w (some ⟨b, off, none⟩) len l) : ∀ j u, (pcells l)[j]? = some u → w.cell? ⟨b, off + j, none⟩ = some u := fun j u hj => by
  have hjl : j < l.length * 3 := by rw [← pcells_len]; exact (List.getElem?_eq_some_iff.1 hj).1
  obtain ⟨h1, h2⟩ := h
  rcases h2 with h2 | ⟨b', off', e, h4⟩
  · omega
  · cases e
    have hi : j / 3 < l.length := by omega
    obtain ⟨a0, a1, a2⟩ := pcells_at l (j / 3) hi
    obtain ⟨c0, c1, c2⟩ := h4 (j / 3) hi
    rcases (show j % 3 = 0 ∨ j % 3 = 1 ∨ j % 3 = 2 by omega) with e | e | e
    · rw [show j = j / 3 * 3 by omega] at hj ⊢; rw [a0] at hj; cases hj; exact c0
    · rw [show j = j / 3 * 3 + 1 by omega] at hj ⊢; rw [a1] at hj; cases hj; rw [← Nat.add_assoc]; exact c1
    · rw [show j = j / 3 * 3 + 2 by omega] at hj ⊢; rw [a2] at hj; cases hj; rw [← Nat.add_assoc]; exact c2
theorem pcells_one : ∀ (l : List AV), ∀ u ∈ pcells l, u.oneCell' = true
  | [], u, h => by simp [pcells] at h
  | q :: t, u, h => by
    rw [pcells, List.mem_append] at h
    rcases h with h | h
    · simp at h
      rcases h with rfl | rfl | rfl <;> rfl
    · exact pcells_one t u h
/-- v is a list of these applications, by their heads, in memory of its own from block B on -/
def POwn (B : Nat) (w : World) (v : Value) (l : List AV) : Prop := w.ownsRow B 71 3 v l.length (pcells l)
theorem pown_nil (B : Nat) (w : World) : POwn B w (.slice none 0 0) [] := World.ownsRow_nil _ _ _ _
theorem pown_empty (w : World) : w.alloc (.cells #[] 71) |>.ownsRow w.heap.size 71 3 (.slice (some ⟨w.heap.size, 0, none⟩) 0 0) 0 [] :=
  ⟨rfl, .inr ⟨w.heap.size, 0, #[], rfl, Nat.le_refl _, by show (w.heap.push _)[w.heap.size]? = _; simp, Nat.le_refl _, by unfold maxLen; omega, rfl, rfl⟩⟩
theorem pown_below {w w' : World} {B : Nat} {v : Value} {l : List AV} (h : POwn B w v l) (hb : Below w.heap.size w w') : POwn B w' v l :=
  World.ownsRow.kept h (grownBy_below (grownBy_refl w none) hb) (by by_cases e : v.ownBlock = none; exact .inl e; exact .inr e)
theorem pown_base {w : World} {B B' : Nat} {v : Value} {l : List AV} (h : POwn B w v l) (hb : B' ≤ B) : POwn B' w v l := by
  obtain ⟨h1, h2⟩ := h
  refine ⟨h1, ?_⟩
  rcases h2 with h2 | ⟨g, cap, cur, a, b, c⟩
  · exact .inl h2
  · exact .inr ⟨g, cap, cur, a, Nat.le_trans hb b, c⟩
theorem pown_row {w : World} {B : Nat} {v : Value} {l : List AV} (h : POwn B w v l) : ∃ ao cap, v = .slice ao l.length cap ∧ AVRow w ao l.length l ∧ l.length ≤ cap ∧ (l ≠ [] → ∃ g cur, ao = some ⟨g, 0, none⟩ ∧ B ≤ g ∧ w.heap[g]? = some (.cells cur 71 (0, 0)) ∧ cur.size = cap * 3) := by
  rcases h.2 with ⟨rfl, h0⟩ | ⟨g, cap, cur, rfl, h1, h2, h3, h4, h5, h6⟩
  · exact ⟨none, 0, by rw [h0], ⟨rfl, .inl h0⟩, by omega, fun hn => absurd (List.length_eq_zero_iff.1 h0) hn⟩
  · refine ⟨some ⟨g, 0, none⟩, cap, rfl, ⟨rfl, .inr ⟨g, 0, rfl, fun i hi => ?_⟩⟩, h3, fun _ => ⟨g, cur, rfl, h1, h2, h5⟩⟩
    obtain ⟨a, b, c⟩ := pcells_at l i hi
    have k : ∀ j (v : Value), j < l.length * 3 → (pcells l)[j]? = some v → w.cell? ⟨g, j, none⟩ = some v := fun j v hj hv => by
      rw [← h6, List.getElem?_take_of_lt hj] at hv
      simp [World.cell?, h2]
      simpa using hv
    unfold AVAt
    rw [Nat.zero_add]
    exact ⟨k _ _ (by omega) a, k _ _ (by omega) b, k _ _ (by omega) c⟩
theorem pown_other {w : World} {B : Nat} {v : Value} {l : List AV} (h : POwn B w v l) (k j : Nat) (x : Value) (hk : k < B) : POwn B (w.setCell ⟨k, j, none⟩ x) v l := by
  obtain ⟨h1, h2⟩ := h
  refine ⟨h1, ?_⟩
  rcases h2 with h2 | ⟨g, cap, cur, a, b, c, d⟩
  · exact .inl h2
  · exact .inr ⟨g, cap, cur, a, b, (heap_setCell_other w ⟨k, j, none⟩ g x (show g ≠ k by omega)).trans c, d⟩
theorem Tryz.infoApp : (Tryz.prog.info? 71).map (fun i => (i.zero, i.size, i.bytes)) = some (some (.agg #[.int .i64 0, .string ByteArray.empty, .slice none 0 0]), 3, 48) := by kernel_rfl

end Go.Proofs.YtgdndekmkaknlaaGreat
