/-
  Several texts of this claim in one: TakB, TakD2, TakE, MarkN, RecV, RcvM, Bytes, PutS (pack.py put them together); each says in its own remark what is proved.
-/
import Derived.Test.YtkpmocbfedgfhaaGreatPackK
import Derived.Test.YtkpmocbfedgfhaaGreatTakC
import Derived.Test.YtkpmocbfedgfhaaGreatPackH
import Derived.Test.YtkpmocbfedgfhaaGreatPackJ
import Derived.Shelf.Abstract
import Derived.OneCell
import Derived.Deep.CutBlock
import Derived.Deep.CutRange
import Derived.Test.YtkpmocbfedgfhaaGreatPackB
import Derived.Test.YtkpmocbfedgfhaaGreatStAll
import Derived.Test.YtkpmocbfedgfhaaGreatPackE
import Derived.Test.YtkpmocbfedgfhaaGreatPackD
import Derived.Test.YtkpmocbfedgfhaaGreatPackA
import Derived.ProofKit
import Derived.OpenShut
import Derived.ChangeSame
import Derived.Deep.Slices
import Derived.Test.YtkpmocbfedgfhaaGreatPackC
import Derived.Laws.IdiomStrings
import Derived.Lib.ItoaMem
/-
  Containers, an application, a machine taken out of a state that is the caller's own: what the program's takeConts, drop and lose leave; walks over the dump.
-/
namespace Go.Proofs.YtkpmocbfedgfhaaGreat
open Go.RowKit
set_option linter.unusedVariables false
theorem own_mkt {B b N : Nat} {w w' : World} {t t' : TypeId} {sz n : Nat} {ao : Option Addr} (h : Own1 B w.heap.size w t sz ao n) (hm : Mks (fun k => k = b) w w') (hc : Cel w t' b N) (ht : t' ≠ t) : (∀ k, inR ao n k → ¬ (k = b)) ∧ Own1 B w'.heap.size w' t sz ao n := by
  refine ⟨fun k hk e => ?_, (h.mks hm).mono (Nat.le_refl _) hm.size⟩
  obtain ⟨_, _, N', h2⟩ := h.lies k hk
  subst e
  exact ht (hc.type h2)
theorem QHas.mkt {B b n : Nat} {w w' : World} {ao : Option Addr} {l : List Q} {arr : Array Value} (h : QHas B w ao n l) (hm : Mks (fun k => k = b) w w') (hc : Blk w b arr 31) : QHas B w' ao n l :=
  ⟨h.1.mks hm (own_mkt h.2 hm ⟨_, hc, rfl⟩ (by decide)).1, (own_mkt h.2 hm ⟨_, hc, rfl⟩ (by decide)).2⟩
theorem MHas.mkt {B b n : Nat} {w w' : World} {ao : Option Addr} {l : List Mac} {arr : Array Value} (h : MHas B w ao n l) (hm : Mks (fun k => k = b) w w') (hc : Blk w b arr 31) : MHas B w' ao n l :=
  ⟨h.1.mks hm (own_mkt h.2 hm ⟨_, hc, rfl⟩ (by decide)).1, (own_mkt h.2 hm ⟨_, hc, rfl⟩ (by decide)).2⟩
theorem CHas.mkt {B b n : Nat} {w w' : World} {ao : Option Addr} {l : List Con} {arr : Array Value} (h : CHas B w ao n l) (hm : Mks (fun k => k = b) w w') (hc : Blk w b arr 31) : CHas B w' ao n l :=
  ⟨h.1.mks hm (own_mkt h.2 hm ⟨_, hc, rfl⟩ (by decide)).1, (own_mkt h.2 hm ⟨_, hc, rfl⟩ (by decide)).2⟩
theorem PHas.mkt {B b n : Nat} {w w' : World} {ao : Option Addr} {l : List AV} {arr : Array Value} (h : PHas B w ao n l) (hm : Mks (fun k => k = b) w w') (hc : Blk w b arr 31) : PHas B w' ao n l :=
  ⟨h.1.mks hm (own_mkt h.2 hm ⟨_, hc, rfl⟩ (by decide)).1, (own_mkt h.2 hm ⟨_, hc, rfl⟩ (by decide)).2⟩
theorem KHas.mkt {B b : Nat} {w w' : World} {hs : List AV} {l : List Appl} {arr : Array Value} (h : KHas B w hs l) (hm : Mks (fun k => k = b) w w') (hc : Blk w b arr 31) : KHas B w' hs l :=
  ⟨⟨h.heads.1, fun i h1 h2 => let ⟨a, b', c, d⟩ := h.heads.2 i h1 h2; ⟨a, b', c.mks hm (own_mkt (h.own _ (List.getElem_mem h1)) hm ⟨_, hc, rfl⟩ (by decide)).1, d⟩⟩, fun v hv => (own_mkt (h.own v hv) hm ⟨_, hc, rfl⟩ (by decide)).2, h.apart⟩
theorem QHas.base {B B' n : Nat} {w : World} {ao : Option Addr} {l : List Q} (h : QHas B w ao n l) (hb : B' ≤ B) : QHas B' w ao n l := ⟨h.1, h.2.mono hb (Nat.le_refl _)⟩
theorem MHas.base {B B' n : Nat} {w : World} {ao : Option Addr} {l : List Mac} (h : MHas B w ao n l) (hb : B' ≤ B) : MHas B' w ao n l := ⟨h.1, h.2.mono hb (Nat.le_refl _)⟩
theorem PHas.base {B B' n : Nat} {w : World} {ao : Option Addr} {l : List AV} (h : PHas B w ao n l) (hb : B' ≤ B) : PHas B' w ao n l := ⟨h.1, h.2.mono hb (Nat.le_refl _)⟩
theorem KHas.base {B B' : Nat} {w : World} {hs : List AV} {l : List Appl} (h : KHas B w hs l) (hb : B' ≤ B) : KHas B' w hs l := ⟨h.heads, fun v hv => (h.own v hv).mono hb (Nat.le_refl _), h.apart⟩

/-- what is left of the heads and of the applications -/
theorem heads_nil (w : World) : Heads w [] [] := ⟨rfl, fun i h => absurd h (by simp)⟩
theorem heads_cons {w : World} {v : AV} {t : List AV} {a : Appl} {s : List Appl} (h : Heads w (v :: t) (a :: s)) : (v.id = a.id ∧ v.queue = a.queue ∧ AskRow w v.ao v.len a.asks ∧ v.len ≤ v.cap) ∧ Heads w t s :=
  ⟨h.2 0 (by simp) (by simp), by simpa using h.1, fun i h1 h2 => by have := h.2 (i + 1) (by simpa using h1) (by simpa using h2); simpa using this⟩
theorem heads_put {w : World} {v : AV} {t : List AV} {a : Appl} {s : List Appl} (h : v.id = a.id ∧ v.queue = a.queue ∧ AskRow w v.ao v.len a.asks ∧ v.len ≤ v.cap) (h' : Heads w t s) : Heads w (v :: t) (a :: s) :=
  ⟨by simp [h'.1], fun i h1 h2 => by
    cases i with
    | zero => exact h
    | succ i => exact h'.2 i (by simpa using h1) (by simpa using h2)⟩
theorem heads_filter {w : World} (f : Int → Bool) : ∀ (hs : List AV) (l : List Appl), Heads w hs l → Heads w (hs.filter (fun v => f v.id)) (l.filter (fun a => f a.id))
  | [], [], _ => heads_nil w
  | [], a :: s, h => absurd h.1 (by simp)
  | v :: t, [], h => absurd h.1 (by simp)
  | v :: t, a :: s, h => by
    obtain ⟨h1, h2⟩ := heads_cons h
    have ih := heads_filter f t s h2
    cases hf : f a.id with
    | true => rw [List.filter_cons_of_pos (by simpa [h1.1] using hf), List.filter_cons_of_pos (by simpa using hf)]; exact heads_put h1 ih
    | false => rw [List.filter_cons_of_neg (by simp [h1.1, hf]), List.filter_cons_of_neg (by simp [hf])]; exact ih
theorem KHas.filter {B : Nat} {w : World} {hs : List AV} {l : List Appl} (h : KHas B w hs l) (f : Int → Bool) : KHas B w (hs.filter (fun v => f v.id)) (l.filter (fun a => f a.id)) :=
  ⟨heads_filter f hs l h.heads, fun v hv => h.own v (List.mem_filter.1 hv).1, h.apart.filter _⟩

theorem TakC.stays {w : World} {g N : Nat} {l gl : List Con} (h : TakC w g (N * 5) l gl) (hl : l.length ≤ N) : CHas g w (some ⟨g, 0, none⟩) l.length l := by
  obtain ⟨v, _, hly, _⟩ := h
  exact ⟨hly.rowC, .inr ⟨g, N, rfl, Nat.le_refl _, hly.lt, hly.cel, hl⟩⟩
theorem TakP.stays {w : World} {g N : Nat} {l gl : List AV} (h : TakP w g (N * 3) l gl) (hl : l.length ≤ N) : PHas g w (some ⟨g, 0, none⟩) l.length l := by
  obtain ⟨v, _, hly, _⟩ := h
  exact ⟨hly.rowP, .inr ⟨g, N, rfl, Nat.le_refl _, hly.lt, hly.cel, hl⟩⟩

/-- what takeConts leaves: the box of the state bears the containers that stay; those that are gone are handed back -/
def TkAns (w : World) (b : Nat) (x : Sls) (s : St) (p : Con → Bool) (e : Ending) (w' : World) : Prop :=
  ∃ go gn gc, e = .returned (.slice go gn gc) ∧ Blk w' b (svc ⟨x.qa, x.ql, x.qc, x.aa, x.al, x.ac, x.ma, x.ml, x.mc, some ⟨w.heap.size, 0, none⟩, (s.cs.filter (fun q => !p q)).length, (s.cs.filter (fun q => !p q)).length⟩ s) 31
    ∧ CHas w.heap.size w' (some ⟨w.heap.size, 0, none⟩) (s.cs.filter (fun q => !p q)).length (s.cs.filter (fun q => !p q)) ∧ CHas (w.heap.size + 2) w' go gn (s.cs.filter p) ∧ Mks (fun k => k = b) w w'

theorem mks_of {b N : Nat} {w w' : World} {t : TypeId} {arr : Array Value} (hb : Below w.heap.size w w') (hk : Blk w b arr t) (v : Value) (j : Nat) : Mks (fun k => k = b) w (w'.setCell ⟨b, j, none⟩ v) := (Mks.of_below hb).sc b j v rfl

set_option maxRecDepth 100000 in
set_option maxHeartbeats 2000000 in
theorem takeConts_any (gf : Nat) (lb : Array Value) (eg : ∀ args w, (callFunc gf args).run Tryz.prog w = .ok (.enter gf args) w) (p : Con → Bool) (b : Nat) (x : Sls) (s : St) (w : World) (hk : Blk w b (svc x s) 31) (h : ConRow w x.ca x.cl s.cs) (hl : x.cl ≤ 1048576)
    (hp : ∀ wx q, q ∈ s.cs → Below w.heap.size w wx → Calls Tryz.prog gf (#[conv q] ++ lb) wx fun e w' => e = .returned (.bool (p q)) ∧ Below wx.heap.size wx w') :
    Calls Tryz.prog 125 #[.pointer (some ⟨b, 0, none⟩), .func (.func gf) #[] lb] w (TkAns w b x s p) := by
  obtain ⟨qa, ql, qc, aa, al, ac, ma, ml, mc, ca, cl, cc⟩ := x
  obtain ⟨qs, clock, epoch, next, serial, apps, ms, cs⟩ := s
  simp only at *
  have CT := hide (takingFromC_any ca cl cc cs w h hl)
  have HLN := hide h.1
  have HK := hide hk
  have HP := hide hp
  have d7 := hk.at 7
  have hbs := hk.lt
  simp at d7
  clear h hk hp
  go_enter Tryz.func125, Tryz.ntmps125
  go_wp2_with fail
  refine (unhide CT).mono ?_
  rintro e w1 ⟨rfl, ht, hs1, hb⟩
  have CA := hide (takeAllC_any gf lb eg p w.heap.size (cl * 5) cs [] w1 ht (by have := unhide HLN; simp; omega) (fun wx q hq hbx => unhide HP wx q hq (hb.trans hbx)))
  have HB1 := hide hb
  clear ht hb CT hs1
  go_wp2_with fail
  refine (unhide CA).mono ?_
  rintro e w2 ⟨rfl, ht, hb⟩
  have HB2 := hide ((unhide HB1).trans hb)
  have HST := hide (ht.stays (by have := unhide HLN; have := List.length_filter_le (fun q => !p q) cs; omega))
  obtain ⟨v, hbk, hly, how⟩ := ht
  obtain ⟨go, gc, rfl, hgc, hgo⟩ := cown_has how
  rw [List.nil_append] at hgo hbk
  have HGO := hide hgo
  have k0 := hbk.at 0
  have k1 := hbk.at 1
  obtain ⟨n1, hn1⟩ : ∃ n, (cs.filter (fun q => !p q)).length = n := ⟨_, rfl⟩
  obtain ⟨n2, hn2⟩ : ∃ n, (cs.filter p).length = n := ⟨_, rfl⟩
  rw [hn1] at k0 k1
  rw [hn2] at k0 k1
  simp at k0 k1
  have K2 := hide (show Blk w2 b _ 31 from ((unhide HB2).block b hbs).trans (unhide HK))
  have e7 := (unhide K2).at 7
  have f7 := (unhide K2).f 7
  simp at e7
  have hz2 : w.heap.size + 1 < w2.heap.size := hbk.lt
  have HN1 := hide hn1
  have HN2 := hide hn2
  have hne : ¬ (b = w.heap.size + 1) := by omega
  have hne2 : ¬ (w.heap.size + 1 = b) := by omega
  clear hbk hly how hb HB1 CA d7 hgo hgc hn1 hn2
  go_wp2
  go_ret
  refine ⟨go, n2, gc, rfl, ?_, ?_, ?_, ?_⟩
  · show Blk _ b #[.slice qa ql qc, .int .i64 clock, .int .i64 epoch, .int .i64 next, .int .i64 serial, .slice aa al ac, .slice ma ml mc, .slice _ (cs.filter (fun q => !p q)).length (cs.filter (fun q => !p q)).length] _
    rw [unhide HN1]
    exact (unhide K2).set 7 _
  · have hm : Mks (fun k => k = b) w2 (w2.setCell ⟨b, 7, none⟩ (.slice (some ⟨w.heap.size, 0, none⟩) n1 n1)) := Mks.one _ _ _ _ _ rfl
    exact (unhide HST).mkt hm (unhide K2)
  · have hm : Mks (fun k => k = b) w2 (w2.setCell ⟨b, 7, none⟩ (.slice (some ⟨w.heap.size, 0, none⟩) n1 n1)) := Mks.one _ _ _ _ _ rfl
    have := (unhide HGO).mkt hm (unhide K2)
    rw [unhide HN2] at this
    exact this
  · exact mks_of (N := 0) (unhide HB2) (unhide HK) _ 7

/-- a state that owns its lists, from B on -/
structure SHas (B : Nat) (w : World) (x : Sls) (s : St) (hs : List AV) : Prop where
  q : QHas B w x.qa x.ql s.qs
  p : PHas B w x.aa x.al hs
  k : KHas B w hs s.apps
  m : MHas B w x.ma x.ml s.ms
  c : CHas B w x.ca x.cl s.cs
  cap : SCap x
  rm : RmS B w.heap.size w x hs
theorem SHas.below {B : Nat} {w w' : World} {x : Sls} {s : St} {hs : List AV} (h : SHas B w x s hs) (hb : Below w.heap.size w w') : SHas B w' x s hs := ⟨h.q.below hb, h.p.below hb, h.k.below hb, h.m.below hb, h.c.below hb, h.cap, (h.rm.below hb).mono (Nat.le_refl _) hb.size⟩
theorem SHas.mkt {B b : Nat} {w w' : World} {x : Sls} {s : St} {hs : List AV} {arr : Array Value} (h : SHas B w x s hs) (hm : Mks (fun k => k = b) w w') (hc : Blk w b arr 31) : SHas B w' x s hs := ⟨h.q.mkt hm hc, h.p.mkt hm hc, h.k.mkt hm hc, h.m.mkt hm hc, h.c.mkt hm hc, h.cap, (h.rm.mks hm).mono (Nat.le_refl _) hm.size⟩
theorem SHas.base {B B' : Nat} {w : World} {x : Sls} {s : St} {hs : List AV} (h : SHas B w x s hs) (hb : B' ≤ B) : SHas B' w x s hs := ⟨h.q.base hb, h.p.base hb, h.k.base hb, h.m.base hb, h.c.base hb, h.cap, h.rm.mono hb (Nat.le_refl _)⟩
theorem SHas.ans {B : Nat} {w : World} {x : Sls} {s : St} {hs : List AV} (h : SHas B w x s hs) : SAns B w.heap.size w x s hs := sans_of h.q h.p h.k h.m h.c h.cap h.rm
theorem SAns.has {B E : Nat} {w : World} {x : Sls} {s : St} {hs : List AV} (h : SAns B E w x s hs) (hE : E ≤ w.heap.size) : SHas B w x s hs :=
  ⟨⟨h.row.1, h.q.mono (Nat.le_refl _) hE⟩, ⟨h.av, h.a.mono (Nat.le_refl _) hE⟩, ⟨h.heads, fun v hv => (h.asks v hv).mono (Nat.le_refl _) hE, h.apart⟩, ⟨h.row.2.2.1, h.m.mono (Nat.le_refl _) hE⟩, ⟨h.row.2.2.2, h.c.mono (Nat.le_refl _) hE⟩, h.cap, h.rm.mono (Nat.le_refl _) hE⟩
/-- behind a call that takes out of the state in box b: the state that is left, and what is gone -/
def TkSt (B : Nat) (w : World) (b : Nat) (s : St) (hs : List AV) (gone : List Con) (e : Ending) (w' : World) : Prop :=
  ∃ y go gn gc, e = .returned (.slice go gn gc) ∧ Blk w' b (svc y s) 31 ∧ SHas B w' y s hs ∧ CHas w.heap.size w' go gn gone ∧ (∀ k, inR go gn k → ¬ inR y.ca y.cl k) ∧ Mks (fun k => k = b) w w'
theorem takeConts_st {B : Nat} (gf : Nat) (lb : Array Value) (eg : ∀ args w, (callFunc gf args).run Tryz.prog w = .ok (.enter gf args) w) (p : Con → Bool) (b : Nat) (x : Sls) (s : St) (hs : List AV) (w : World) (hk : Blk w b (svc x s) 31) (h : SHas B w x s hs) (hB : B ≤ w.heap.size) (hl : x.cl ≤ 1048576)
    (hp : ∀ wx q, q ∈ s.cs → Below w.heap.size w wx → Calls Tryz.prog gf (#[conv q] ++ lb) wx fun e w' => e = .returned (.bool (p q)) ∧ Below wx.heap.size wx w') :
    Calls Tryz.prog 125 #[.pointer (some ⟨b, 0, none⟩), .func (.func gf) #[] lb] w (TkSt B w b ⟨s.qs, s.clock, s.epoch, s.next, s.serial, s.apps, s.ms, s.cs.filter (fun q => !p q)⟩ hs (s.cs.filter p)) := by
  refine (takeConts_any gf lb eg p b x s w hk h.c.1 hl hp).mono ?_
  rintro e w' ⟨go, gn, gc, rfl, h1, h2, h3, hm⟩
  refine ⟨_, go, gn, gc, rfl, h1, ⟨h.q.mkt hm hk, h.p.mkt hm hk, h.k.mkt hm hk, h.m.mkt hm hk, h2.base hB, ⟨h.cap.q, h.cap.a, h.cap.m, Nat.le_refl _⟩, (fun r => ⟨r.1, r.2.1, r.2.2.1, (h2.base hB).2, r.2.2.2.2⟩) ((h.rm.mks hm).mono (Nat.le_refl _) hm.size)⟩, h3.base (by omega), fun k hk1 hk2 => ?_, hm⟩
  obtain ⟨a1, _⟩ := h3.2.lies k hk1
  obtain ⟨_, o, e⟩ := hk2
  cases e
  omega

set_option maxRecDepth 100000 in
set_option maxHeartbeats 1000000 in
theorem dropP_clo (k : Nat) (app : Int) (v : AV) (w : World) (h : w.cell? ⟨k, 0, none⟩ = some (.int .i64 app)) :
    Calls Tryz.prog 124 #[avv v, .pointer (some ⟨k, 0, none⟩)] w fun e w' => e = .returned (.bool (decide (v.id = app))) ∧ Below w.heap.size w w' := by
  obtain ⟨vi, vq, va, vl, vc⟩ := v
  have hks := cell_lt h
  have HB := hide (below_al (Below.refl _ w) (.cells #[.int .i64 vi, .string (bs vq), .slice va vl vc] 44))
  go_enter Tryz.func124, Tryz.ntmps124
  go_wp2
  go_ret
  exact ⟨rfl, unhide HB⟩
set_option maxRecDepth 100000 in
set_option maxHeartbeats 1000000 in
theorem dropC_clo (k : Nat) (app : Int) (q : Con) (w : World) (h : w.cell? ⟨k, 0, none⟩ = some (.int .i64 app)) :
    Calls Tryz.prog 126 #[conv q, .pointer (some ⟨k, 0, none⟩)] w fun e w' => e = .returned (.bool (decide (q.app = app))) ∧ Below w.heap.size w w' := by
  obtain ⟨id, ap, nd, me, cp⟩ := q
  have hks := cell_lt h
  have HB := hide (below_al (Below.refl _ w) (.cells #[.int .i64 id, .int .i64 ap, .string (bs nd), .int .i64 me, .int .i64 cp] 119))
  go_enter Tryz.func126, Tryz.ntmps126
  go_wp2
  go_ret
  exact ⟨rfl, unhide HB⟩
end Go.Proofs.YtkpmocbfedgfhaaGreat

/-
  An application, a machine taken out of a state that is the caller's own, with its containers: what the program's drop and lose leave; walks over the dump.
-/
namespace Go.Proofs.YtkpmocbfedgfhaaGreat
open Go.RowKit
set_option linter.unusedVariables false
set_option maxRecDepth 100000 in
set_option maxHeartbeats 4000000 in
theorem drop_st {B : Nat} (app : Int) (b : Nat) (x : Sls) (s : St) (hs : List AV) (w : World) (hk : Blk w b (svc x s) 31) (h : SHas B w x s hs) (hB : B ≤ w.heap.size) (hl : x.cl ≤ 1048576) (hl2 : x.al ≤ 1048576) :
    Calls Tryz.prog 84 #[.pointer (some ⟨b, 0, none⟩), .int .i64 app] w (TkSt B w b ⟨s.qs, s.clock, s.epoch, s.next, s.serial, s.apps.filter (fun a => !decide (a.id = app)), s.ms, s.cs.filter (fun q => !decide (q.app = app))⟩ (hs.filter (fun v => !decide (v.id = app))) (s.cs.filter (fun q => decide (q.app = app)))) := by
  obtain ⟨qa, ql, qc, aa, al, ac, ma, ml, mc, ca, cl, cc⟩ := x
  obtain ⟨qs, clock, epoch, next, serial, apps, ms, cs⟩ := s
  simp only at *
  have hb0 := below_al (Below.refl _ w) (.cells #[.int .i64 app] 3)
  have HB0 := hide hb0
  have CT := hide (takingFromP_any aa al ac hs _ (h.p.1.below hb0) hl2)
  have HLN := hide ((h.p.1.below hb0)).1
  have HK := hide hk
  have HH := hide h
  have hbs := hk.lt
  have V0 := hide (show (w.alloc (.cells #[.int .i64 app] 3)).cell? ⟨w.heap.size, 0, none⟩ = some (.int .i64 app) from (blk_new w #[.int .i64 app] 3).at 0)
  have d5 := (hk.al (.cells #[.int .i64 app] 3)).at 5
  simp at d5
  have hsz0 := al_size w (.cells #[.int .i64 app] 3)
  rw [hsz0] at CT
  clear h hk hb0 hsz0
  go_enter Tryz.func84, Tryz.ntmps84
  go_wp2_with fail
  refine (unhide CT).mono ?_
  rintro e w1 ⟨rfl, ht, hs1, hb⟩
  have HB1 := hide (show Below (w.heap.size + 1) (w.alloc (.cells #[.int .i64 app] 3)) w1 from hb)
  have CA := hide (takeAllP_any 124 #[.pointer (some ⟨w.heap.size, 0, none⟩)] (enters_of Tryz.func124 (by kernel_rfl) rfl) (fun v => decide (v.id = app)) (w.heap.size + 1) (al * 3) hs [] w1 ht (by have := unhide HLN; simp; omega) (fun wx v hq hbx => dropP_clo w.heap.size app v wx ((((unhide HB1).trans hbx).cell (p := ⟨w.heap.size, 0, none⟩) (by simp)).trans (unhide V0))))
  clear ht hb CT
  go_wp2_with fail
  refine (unhide CA).mono ?_
  rintro e w2 ⟨rfl, ht, hb⟩
  have V2 := hide ((((unhide HB1).trans hb).cell (p := ⟨w.heap.size, 0, none⟩) (by simp)).trans (unhide V0))
  have HB2 := hide (show Below w.heap.size w w2 from (unhide HB0).trans (((unhide HB1).trans hb).mono (by omega)))
  have HST := hide (ht.stays (by have := unhide HLN; have := List.length_filter_le (fun v : AV => !decide (v.id = app)) hs; omega))
  obtain ⟨v, hbk, hly, how⟩ := ht
  have k0 := hbk.at 0
  obtain ⟨n1, hn1⟩ : ∃ n, (hs.filter (fun v => !decide (v.id = app))).length = n := ⟨_, rfl⟩
  rw [hn1] at k0
  simp at k0
  have K2 := hide (show Blk w2 b _ 31 from ((unhide HB2).block b hbs).trans (unhide HK))
  have e5 := (unhide K2).at 5
  have f5 := (unhide K2).f 5
  simp at e5
  have HN1 := hide hn1
  have hz2 : w.heap.size + 1 < w2.heap.size := hly.lt
  clear hbk hly how hb HB1 CA d5 hn1
  go_upto_region 4 with fail
  have hm : Mks (fun k => k = b) w2 (w2.setCell ⟨b, 5, none⟩ (.slice (some ⟨w.heap.size + 1, 0, none⟩) n1 n1)) := Mks.one _ _ _ _ _ rfl
  have K3 := hide (show Blk (w2.setCell ⟨b, 5, none⟩ (.slice (some ⟨w.heap.size + 1, 0, none⟩) n1 n1)) b #[.slice qa ql qc, .int .i64 clock, .int .i64 epoch, .int .i64 next, .int .i64 serial, .slice (some ⟨w.heap.size + 1, 0, none⟩) n1 n1, .slice ma ml mc, .slice ca cl cc] 31 from (unhide K2).set 5 _)
  have HM3 := hide (show Mks (fun k => k = b) w (w2.setCell ⟨b, 5, none⟩ (.slice (some ⟨w.heap.size + 1, 0, none⟩) n1 n1)) from mks_of (N := 0) (unhide HB2) (unhide HK) _ 5)
  have HH3 := hide (show SHas B (w2.setCell ⟨b, 5, none⟩ (.slice (some ⟨w.heap.size + 1, 0, none⟩) n1 n1)) ⟨qa, ql, qc, some ⟨w.heap.size + 1, 0, none⟩, n1, n1, ma, ml, mc, ca, cl, cc⟩ ⟨qs, clock, epoch, next, serial, apps.filter (fun a => !decide (a.id = app)), ms, cs⟩ (hs.filter (fun v => !decide (v.id = app))) from ⟨((unhide HH).q.below (unhide HB2)).mkt hm (unhide K2), by have := (unhide HST).mkt hm (unhide K2); rw [unhide HN1] at this; exact this.base (by omega), (((unhide HH).k.below (unhide HB2)).filter (fun i => !decide (i = app))).mkt hm (unhide K2), ((unhide HH).m.below (unhide HB2)).mkt hm (unhide K2), ((unhide HH).c.below (unhide HB2)).mkt hm (unhide K2), ⟨(unhide HH).cap.q, Nat.le_refl _, (unhide HH).cap.m, (unhide HH).cap.c⟩, (fun r => ⟨r.1, (by have := ((unhide HST).mkt hm (unhide K2)); rw [unhide HN1] at this; exact (this.base (B' := B) (by omega)).2), r.2.2.1, r.2.2.2.1, fun v hv => r.2.2.2.2 v (List.mem_filter.1 hv).1⟩) ((((unhide HH).rm.below (unhide HB2)).mks hm).mono (Nat.le_refl _) (Nat.le_trans (unhide HB2).size hm.size))⟩)
  have V3 := hide ((World.cell?_setCell_other w2 ⟨b, 5, none⟩ ⟨w.heap.size, 0, none⟩ (.slice (some ⟨w.heap.size + 1, 0, none⟩) n1 n1) (by simp)).trans (unhide V2))
  have hz3 : w.heap.size + 1 < (w2.setCell ⟨b, 5, none⟩ (.slice (some ⟨w.heap.size + 1, 0, none⟩) n1 n1)).heap.size := by rw [set_size]; exact hz2
  generalize w2.setCell ⟨b, 5, none⟩ (.slice (some ⟨w.heap.size + 1, 0, none⟩) n1 n1) = w3 at K3 HM3 HH3 V3 hz3 ⊢
  have CC := hide (takeConts_st 126 #[.pointer (some ⟨w.heap.size, 0, none⟩)] (enters_of Tryz.func126 (by kernel_rfl) rfl) (fun q => decide (q.app = app)) b ⟨qa, ql, qc, some ⟨w.heap.size + 1, 0, none⟩, n1, n1, ma, ml, mc, ca, cl, cc⟩ ⟨qs, clock, epoch, next, serial, apps.filter (fun a => !decide (a.id = app)), ms, cs⟩ (hs.filter (fun v => !decide (v.id = app))) w3 (unhide K3) (unhide HH3) (by omega) hl (fun wx q hq hbx => dropC_clo w.heap.size app q wx (cellBel (unhide V3) hbx)))
  clear hm HST k0 K2 e5 f5 V2 HB2 hz2
  go_wp2_with fail
  refine (unhide CC).mono ?_
  rintro e w4 ⟨y, go, gn, gc, rfl, h1, h2, h3, h4, h5⟩
  have X1 := hide h1
  have X2 := hide h2
  have X3 := hide (h3.base (B' := w.heap.size) (by omega))
  have X4 := hide h4
  have X5 := hide ((unhide HM3).trans h5)
  clear h1 h2 h3 h4 h5 CC
  go_wp2
  go_ret
  exact ⟨y, go, gn, gc, rfl, unhide X1, unhide X2, unhide X3, unhide X4, unhide X5⟩

end Go.Proofs.YtkpmocbfedgfhaaGreat

/-
  What the program's Drop and Lose answer: the state that is left, in memory of its own, and what is gone; walks over the dump.
-/
namespace Go.Proofs.YtkpmocbfedgfhaaGreat
open Go.RowKit
set_option linter.unusedVariables false
theorem SHas.sc {B k j : Nat} {v : Value} {w : World} {x : Sls} {s : St} {hs : List AV} (h : SHas B w x s hs) (hk : k < B) : SHas B (w.setCell ⟨k, j, none⟩ v) x s hs := ⟨h.q.sc hk, h.p.sc hk, h.k.sc (.inl hk), h.m.sc hk, h.c.sc hk, h.cap, (h.rm.sc k j v).mono (Nat.le_refl _) (by rw [set_size]; exact Nat.le_refl _)⟩
/-- the answer: a state in memory of its own, and containers in memory of their own -/
def StAns (w : World) (s : St) (gone : List Con) (e : Ending) (w' : World) : Prop :=
  ∃ y hs go gn gc, e = .returned (.tuple #[sv y s, .slice go gn gc]) ∧ SAns w.heap.size w'.heap.size w' y s hs ∧ CHas w.heap.size w' go gn gone ∧ (∀ k, inR go gn k → ¬ inR y.ca y.cl k) ∧ Below w.heap.size w w'
/-- without an application, and what was its -/
def dropV (s : St) (app : Int) : St × List Con :=
  if stateOkV s = true then (⟨s.qs, s.clock, s.epoch, s.next, s.serial, s.apps.filter (fun a => !decide (a.id = app)), s.ms, s.cs.filter (fun q => !decide (q.app = app))⟩, s.cs.filter (fun q => decide (q.app = app))) else (s, [])
theorem dropV_eq (s : St) (app : Int) : (stateOkV s = true → dropV s app = (⟨s.qs, s.clock, s.epoch, s.next, s.serial, s.apps.filter (fun a => !decide (a.id = app)), s.ms, s.cs.filter (fun q => !decide (q.app = app))⟩, s.cs.filter (fun q => decide (q.app = app)))) ∧ (stateOkV s = false → dropV s app = (s, [])) :=
  ⟨fun h => if_pos h, fun h => if_neg (by simp [h])⟩
end Go.Proofs.YtkpmocbfedgfhaaGreat

/-
  The laws' own marks at a state that has nothing but queues; walks over the dump.
-/
namespace Go.Proofs.YtkpmocbfedgfhaaGreat
open Go.RowKit
set_option linter.unusedVariables false
/-- a state of queues alone, as memory and as what it says -/
abbrev newX (qo : Option Addr) (n c : Nat) : Sls := ⟨qo, n, c, none, 0, 0, none, 0, 0, none, 0, 0⟩
abbrev newSt (l : List Q) (ep nx se : Int) : St := ⟨l, 0, ep, nx, se, [], [], []⟩
theorem new_row {w : World} {qo : Option Addr} {n c : Nat} {l : List Q} (ep nx se : Int) (h : QRow w qo n l) : SRow w (newX qo n c) (newSt l ep nx se) := ⟨h, ⟨rfl, .inl rfl⟩, ⟨rfl, .inl rfl⟩, ⟨rfl, .inl rfl⟩⟩
theorem new_fit {l : List Q} (ep nx se : Int) (h : FitQ l) : FitSt (newSt l ep nx se) := ⟨h, ⟨by simp, by simp⟩, ⟨by simp, by simp⟩, ⟨by simp, by simp⟩⟩

end Go.Proofs.YtkpmocbfedgfhaaGreat

/-
  Records: values; which are right, by both sides; walks over the dump.
-/
namespace Go.Proofs.YtkpmocbfedgfhaaGreat
open Go.ChangeShapes Go.WideShapes Go.ChangeAt Go.RowKit Go.Deep
set_option linter.unusedVariables false
structure Rc where
  kind : Int
  app : Int
  queue : List UInt8
abbrev rcv (r : Rc) : Value := .agg #[.int .i64 r.kind, .int .i64 r.app, .string (bs r.queue)]
def recOk (r : Rc) : Bool :=
  if r.kind = 0 then inB r.app 1 1000000000 && nameOk r.queue
  else if r.kind = 1 then inB r.app 1 1000000000 && decide (r.queue = [])
  else if r.kind = 2 then decide (r.app = 0) && decide (r.queue = [])
  else false
theorem recOk_bd {r : Rc} (h : recOk r = true) : 0 ≤ r.kind ∧ r.kind ≤ 2 ∧ 0 ≤ r.app ∧ r.app ≤ 1000000000 ∧ r.queue.length ≤ 10 := by
  obtain ⟨k, a, q⟩ := r
  unfold recOk at h
  simp only at h ⊢
  split at h
  · simp only [inB, nameOk, Bool.and_eq_true, decide_eq_true_eq] at h; omega
  split at h
  · simp only [inB, Bool.and_eq_true, decide_eq_true_eq] at h; obtain ⟨h1, rfl⟩ := h; simp; omega
  split at h
  · simp only [Bool.and_eq_true, decide_eq_true_eq] at h; obtain ⟨h1, rfl⟩ := h; simp; omega
  · exact absurd h (by simp)

set_option maxRecDepth 100000 in
set_option maxHeartbeats 4000000 in
theorem specRecOk_any (r : Rc) (w : World) (hq : r.queue.length ≤ 1048576) :
    Calls Tryz.prog 118 #[rcv r] w fun e w' => e = .returned (.bool (recOk r)) ∧ Below w.heap.size w w' := by
  obtain ⟨k, a, q⟩ := r
  simp only at hq
  have hbe := bs_empty q
  obtain ⟨i1, hi1⟩ : ∃ b, inB a 1 1000000000 = b := ⟨_, rfl⟩
  obtain ⟨n1, hn1⟩ : ∃ b, nameOk q = b := ⟨_, rfl⟩
  have C1 := hide (fun wx => by have := l01In_any a 1 1000000000 wx; rw [hi1] at this; exact this)
  have C2 := hide (fun wx => by have := specNameOk_any (bs q) wx (by rw [bs_size]; exact hq); rw [show nameOk (bs q).data.toList = n1 from hn1] at this; exact this)
  have K0 := hide (blk_new w #[.int .i64 k, .int .i64 a, .string (bs q)] 41)
  have HB0 := hide (below_al (Below.refl _ w) (.cells #[.int .i64 k, .int .i64 a, .string (bs q)] 41))
  by_cases h0 : k = 0
  · subst h0
    have HR : recOk ⟨0, a, q⟩ = (i1 && n1) := by simp [recOk, hi1, hn1]
    rw [HR]
    clear hi1 hn1 HR
    cases i1
    · go_enter Tryz.func118, Tryz.ntmps118
      go_wp2_with fail
      refine (unhide C1 _).mono ?_
      rintro e w1 ⟨rfl, rfl⟩
      go_wp2
      go_ret
      exact ⟨rfl, unhide HB0⟩
    · go_enter Tryz.func118, Tryz.ntmps118
      go_wp2_with fail
      refine (unhide C1 _).mono ?_
      rintro e w1 ⟨rfl, rfl⟩
      go_wp2_with fail
      refine (unhide C2 _).mono ?_
      rintro e w2 ⟨rfl, rfl⟩
      go_wp2
      go_ret
      exact ⟨by simp, unhide HB0⟩
  by_cases h1 : k = 1
  · subst h1
    obtain ⟨z, hz⟩ : ∃ b, decide (q = []) = b := ⟨_, rfl⟩
    rw [hz] at hbe
    have HR : recOk ⟨1, a, q⟩ = (i1 && z) := by simp only [recOk, hi1, hz]; rfl
    rw [HR]
    clear hi1 hn1 HR hz
    cases i1 <;> cases z
    all_goals
      go_enter Tryz.func118, Tryz.ntmps118
      go_wp2_with fail
      refine (unhide C1 _).mono ?_
      rintro e w1 ⟨rfl, rfl⟩
      go_wp2
      go_ret
      exact ⟨rfl, unhide HB0⟩
  by_cases h2 : k = 2
  · subst h2
    obtain ⟨z, hz⟩ : ∃ b, decide (q = []) = b := ⟨_, rfl⟩
    rw [hz] at hbe
    by_cases ha : a = 0
    · subst ha
      have HR : recOk ⟨2, 0, q⟩ = z := by simp only [recOk, hz]; rfl
      rw [HR]
      clear hi1 hn1 HR hz
      cases z
      all_goals
        go_enter Tryz.func118, Tryz.ntmps118
        go_wp2
        go_ret
        exact ⟨rfl, unhide HB0⟩
    · have HR : recOk ⟨2, a, q⟩ = false := by simp [recOk, ha]
      rw [HR]
      clear hi1 hn1 HR hz
      go_enter Tryz.func118, Tryz.ntmps118
      go_wp2
      go_ret
      exact ⟨rfl, unhide HB0⟩
  have HR : recOk ⟨k, a, q⟩ = false := by simp [recOk, h0, h1, h2]
  rw [HR]
  clear hi1 hn1 HR
  go_enter Tryz.func118, Tryz.ntmps118
  go_wp2
  go_ret
  exact ⟨rfl, unhide HB0⟩

set_option maxRecDepth 100000 in
set_option maxHeartbeats 4000000 in
theorem implRecOk_any (r : Rc) (w : World) (hq : r.queue.length ≤ 1048576) :
    Calls Tryz.prog 136 #[rcv r] w fun e w' => e = .returned (.bool (recOk r)) ∧ Below w.heap.size w w' := by
  obtain ⟨k, a, q⟩ := r
  simp only at hq
  have hbe := bs_empty q
  obtain ⟨i1, hi1⟩ : ∃ b, inB a 1 1000000000 = b := ⟨_, rfl⟩
  obtain ⟨n1, hn1⟩ : ∃ b, nameOk q = b := ⟨_, rfl⟩
  have C1 := hide (fun wx => by have := countOk_any a wx; rw [hi1] at this; exact this)
  have C2 := hide (fun wx => by have := implNameOk_any (bs q) wx (by rw [bs_size]; exact hq); rw [show nameOk (bs q).data.toList = n1 from hn1] at this; exact this)
  have K0 := hide (blk_new w #[.int .i64 k, .int .i64 a, .string (bs q)] 41)
  have HB0 := hide (below_al (Below.refl _ w) (.cells #[.int .i64 k, .int .i64 a, .string (bs q)] 41))
  by_cases h0 : k = 0
  · subst h0
    have HR : recOk ⟨0, a, q⟩ = (i1 && n1) := by simp [recOk, hi1, hn1]
    rw [HR]
    clear hi1 hn1 HR
    cases i1
    · go_enter Tryz.func136, Tryz.ntmps136
      go_wp2_with fail
      refine (unhide C1 _).mono ?_
      rintro e w1 ⟨rfl, rfl⟩
      go_wp2
      go_ret
      exact ⟨rfl, unhide HB0⟩
    · go_enter Tryz.func136, Tryz.ntmps136
      go_wp2_with fail
      refine (unhide C1 _).mono ?_
      rintro e w1 ⟨rfl, rfl⟩
      go_wp2_with fail
      refine (unhide C2 _).mono ?_
      rintro e w2 ⟨rfl, rfl⟩
      go_wp2
      go_ret
      exact ⟨by simp, unhide HB0⟩
  by_cases h1 : k = 1
  · subst h1
    obtain ⟨z, hz⟩ : ∃ b, decide (q = []) = b := ⟨_, rfl⟩
    rw [hz] at hbe
    have HR : recOk ⟨1, a, q⟩ = (i1 && z) := by simp only [recOk, hi1, hz]; rfl
    rw [HR]
    clear hi1 hn1 HR hz
    cases i1 <;> cases z
    all_goals
      go_enter Tryz.func136, Tryz.ntmps136
      go_wp2_with fail
      refine (unhide C1 _).mono ?_
      rintro e w1 ⟨rfl, rfl⟩
      go_wp2
      go_ret
      exact ⟨rfl, unhide HB0⟩
  by_cases h2 : k = 2
  · subst h2
    obtain ⟨z, hz⟩ : ∃ b, decide (q = []) = b := ⟨_, rfl⟩
    rw [hz] at hbe
    by_cases ha : a = 0
    · subst ha
      have HR : recOk ⟨2, 0, q⟩ = z := by simp only [recOk, hz]; rfl
      rw [HR]
      clear hi1 hn1 HR hz
      cases z
      all_goals
        go_enter Tryz.func136, Tryz.ntmps136
        go_wp2
        go_ret
        exact ⟨rfl, unhide HB0⟩
    · have HR : recOk ⟨2, a, q⟩ = false := by simp [recOk, ha]
      rw [HR]
      clear hi1 hn1 HR hz
      go_enter Tryz.func136, Tryz.ntmps136
      go_wp2
      go_ret
      exact ⟨rfl, unhide HB0⟩
  have HR : recOk ⟨k, a, q⟩ = false := by simp [recOk, h0, h1, h2]
  rw [HR]
  clear hi1 hn1 HR
  go_enter Tryz.func136, Tryz.ntmps136
  go_wp2
  go_ret
  exact ⟨rfl, unhide HB0⟩

end Go.Proofs.YtkpmocbfedgfhaaGreat

/-
  What a log's records make of a new state, in plain words; such a state stays right.
-/
namespace Go.Proofs.YtkpmocbfedgfhaaGreat
open Go.RowKit
set_option linter.unusedVariables false
/-- a state behind a record -/
def applyV (s : St) (r : Rc) : St :=
  if r.kind = 2 then (if s.epoch < 900000 then ⟨s.qs, s.clock, s.epoch + 1, max s.next ((s.epoch + 1) * 1000 + 1), s.serial, s.apps, s.ms, s.cs⟩ else s)
  else if r.kind = 0 then (if lone s.qs r.queue = true ∧ s.next ≤ r.app ∧ r.app ≤ s.epoch * 1000 + 999 ∧ s.apps.length < 40 then ⟨s.qs, s.clock, s.epoch, r.app + 1, s.serial, s.apps ++ [⟨r.app, r.queue, []⟩], s.ms, s.cs⟩ else s)
  else if r.kind = 1 then ⟨s.qs, s.clock, s.epoch, s.next, s.serial, s.apps.filter (fun a => !decide (a.id = r.app)), s.ms, s.cs.filter (fun q => !decide (q.app = r.app))⟩
  else s
theorem apply_epoch {s : St} {r : Rc} (hk : r.kind = 2) (h : s.epoch < 900000) : applyV s r = ⟨s.qs, s.clock, s.epoch + 1, max s.next ((s.epoch + 1) * 1000 + 1), s.serial, s.apps, s.ms, s.cs⟩ := by rw [applyV, if_pos hk, if_pos h]
theorem apply_last {s : St} {r : Rc} (hk : r.kind = 2) (h : ¬ s.epoch < 900000) : applyV s r = s := by rw [applyV, if_pos hk, if_neg h]
theorem apply_app {s : St} {r : Rc} (hk : r.kind = 0) (h : lone s.qs r.queue = true ∧ s.next ≤ r.app ∧ r.app ≤ s.epoch * 1000 + 999 ∧ s.apps.length < 40) : applyV s r = ⟨s.qs, s.clock, s.epoch, r.app + 1, s.serial, s.apps ++ [⟨r.app, r.queue, []⟩], s.ms, s.cs⟩ := by rw [applyV, if_neg (by omega), if_pos hk, if_pos h]
theorem apply_not {s : St} {r : Rc} (hk : r.kind = 0) (h : ¬ (lone s.qs r.queue = true ∧ s.next ≤ r.app ∧ r.app ≤ s.epoch * 1000 + 999 ∧ s.apps.length < 40)) : applyV s r = s := by rw [applyV, if_neg (by omega), if_pos hk, if_neg h]
theorem apply_done {s : St} {r : Rc} (hk : r.kind = 1) : applyV s r = ⟨s.qs, s.clock, s.epoch, s.next, s.serial, s.apps.filter (fun a => !decide (a.id = r.app)), s.ms, s.cs.filter (fun q => !decide (q.app = r.app))⟩ := by rw [applyV, if_neg (by omega), if_neg (by omega), if_pos hk]
theorem apply_else {s : St} {r : Rc} (h0 : r.kind ≠ 0) (h1 : r.kind ≠ 1) (h2 : r.kind ≠ 2) : applyV s r = s := by rw [applyV, if_neg h2, if_neg h0, if_neg h1]

theorem apps_mono {l : List Q} {nx nx' : Int} (h : nx ≤ nx') : ∀ (t : List Appl) (last : Int), appsFrom l nx last t = true → appsFrom l nx' last t = true
  | [], _, _ => rfl
  | a :: t, last, h1 => by
    simp only [appsFrom, Bool.and_eq_true, decide_eq_true_eq] at h1 ⊢
    exact ⟨h1.1, by omega, h1.2.2.1, h1.2.2.2.1, apps_mono h t a.id h1.2.2.2.2⟩
theorem apps_snoc {l : List Q} {nx app : Int} {q : List UInt8} (h : nx ≤ app) (hq : lone l q = true) : ∀ (t : List Appl) (last : Int), last < app → appsFrom l nx last t = true → appsFrom l (app + 1) last (t ++ [⟨app, q, []⟩]) = true
  | [], last, hl, _ => by
    simp only [List.nil_append, appsFrom, Bool.and_eq_true, decide_eq_true_eq]
    exact ⟨hl, by omega, hq, rfl, trivial⟩
  | a :: t, last, hl, h1 => by
    simp only [List.cons_append, appsFrom, Bool.and_eq_true, decide_eq_true_eq] at h1 ⊢
    exact ⟨h1.1, by omega, h1.2.2.1, h1.2.2.2.1, apps_snoc h hq t a.id (by omega) h1.2.2.2.2⟩
theorem apps_filter {l : List Q} {nx : Int} (p : Appl → Bool) : ∀ (t : List Appl) (last last' : Int), last' ≤ last → appsFrom l nx last t = true → appsFrom l nx last' (t.filter p) = true
  | [], _, _, _, _ => rfl
  | a :: t, last, last', hl, h1 => by
    simp only [appsFrom, Bool.and_eq_true, decide_eq_true_eq] at h1
    by_cases hp : p a = true
    · rw [List.filter_cons_of_pos hp]
      simp only [appsFrom, Bool.and_eq_true, decide_eq_true_eq]
      exact ⟨by omega, h1.2.1, h1.2.2.1, h1.2.2.2.1, apps_filter p t a.id a.id (Int.le_refl _) h1.2.2.2.2⟩
    · rw [List.filter_cons_of_neg hp]
      exact apps_filter p t a.id last' (by omega) h1.2.2.2.2

/-- what is true of a state that a log tells -/
structure RInv (l : List Q) (s : St) : Prop where
  qs : s.qs = l
  clock : s.clock = 0
  serial : s.serial = 1
  ms : s.ms = []
  cs : s.cs = []
  e1 : 1 ≤ s.epoch
  e2 : s.epoch ≤ 900000
  n1 : 1 ≤ s.next
  n2 : s.next ≤ s.epoch * 1000 + 1000
  len : s.apps.length ≤ 40
  ap : appsFrom l s.next 0 s.apps = true
  fit : ∀ a ∈ s.apps, FitAppl1 a
theorem rinv_new (l : List Q) : RInv l (newSt l 1 1001 1) := ⟨rfl, rfl, rfl, rfl, rfl, by simp, by simp, by simp, by simp, by simp, rfl, by simp⟩
theorem rinv_step {l : List Q} {s : St} (h : RInv l s) (hf : FitQ l) (r : Rc) : RInv l (applyV s r) := by
  obtain ⟨h1, h2, h3, h4, h5, h6, h7, h8, h9, h10, h11, h12⟩ := h
  by_cases k2 : r.kind = 2
  · by_cases he : s.epoch < 900000
    · rw [apply_epoch k2 he]
      refine ⟨h1, h2, h3, h4, h5, ?_, ?_, ?_, ?_, h10, apps_mono ?_ _ _ h11, h12⟩ <;> simp only <;> omega
    · rw [apply_last k2 he]; exact ⟨h1, h2, h3, h4, h5, h6, h7, h8, h9, h10, h11, h12⟩
  · by_cases k0 : r.kind = 0
    · by_cases hc : lone s.qs r.queue = true ∧ s.next ≤ r.app ∧ r.app ≤ s.epoch * 1000 + 999 ∧ s.apps.length < 40
      · rw [apply_app k0 hc]
        obtain ⟨c1, c2, c3, c4⟩ := hc
        rw [h1] at c1
        refine ⟨h1, h2, h3, h4, h5, h6, h7, ?_, ?_, ?_, apps_snoc c2 c1 _ _ (by omega) h11, fun a ha => ?_⟩
        · simp only; omega
        · simp only; omega
        · simp only [List.length_append, List.length_cons, List.length_nil]; omega
        · rcases List.mem_append.1 ha with ha | ha
          · exact h12 a ha
          · obtain rfl := List.mem_singleton.1 ha
            have hp : 0 ≤ place l r.queue := by
              simp only [lone, Bool.and_eq_true, decide_eq_true_eq] at c1
              exact c1.2
            obtain ⟨q, hq, e⟩ := place_has hp
            exact ⟨by rw [← e]; exact (hf.2 q hq).1, by simp, by simp⟩
      · rw [apply_not k0 hc]; exact ⟨h1, h2, h3, h4, h5, h6, h7, h8, h9, h10, h11, h12⟩
    · by_cases k1 : r.kind = 1
      · rw [apply_done k1]
        refine ⟨h1, h2, h3, h4, by rw [h5]; rfl, h6, h7, h8, h9, Nat.le_trans (List.length_filter_le _ _) h10, apps_filter _ _ _ _ (Int.le_refl _) h11, fun a ha => h12 a (List.mem_filter.1 ha).1⟩
      · rw [apply_else k0 k1 k2]; exact ⟨h1, h2, h3, h4, h5, h6, h7, h8, h9, h10, h11, h12⟩
theorem rinv_ok {l : List Q} {s : St} (h : RInv l s) (hq : queuesOk l = true) : stateOkV s = true := by
  obtain ⟨qs, clock, epoch, next, serial, apps, ms, cs⟩ := s
  obtain ⟨h1, h2, h3, h4, h5, h6, h7, h8, h9, h10, h11, h12⟩ := h
  simp only at h1 h2 h3 h4 h5 h6 h7 h8 h9 h10 h11 h12
  subst h1 h2 h3 h4 h5
  simp only [stateOkV, stateOkS, Bool.and_eq_true]
  refine ⟨hq, rfl, inB_true h6 (by omega), inB_true h8 (by omega), rfl, ?_, rfl, rfl, rfl⟩
  simp only [appsOkV, Bool.and_eq_true, decide_eq_true_eq]
  exact ⟨h10, h11⟩
theorem rinv_fit {l : List Q} {s : St} (h : RInv l s) (hf : FitQ l) : FitSt s := by
  refine ⟨by rw [h.qs]; exact hf, ⟨by have := h.len; omega, h.fit⟩, ?_, ?_⟩
  · rw [h.ms]; exact ⟨by simp, by simp⟩
  · rw [h.cs]; exact ⟨by simp, by simp⟩
/-- what a log tells of queues that are right -/
def recV (l : List Q) (rs : List Rc) : St := rs.foldl applyV (newSt l 1 1001 1)
theorem recV_take {l : List Q} {rs : List Rc} {k : Nat} (h : k < rs.length) : recV l (rs.take (k + 1)) = applyV (recV l (rs.take k)) rs[k] := by
  rw [List.take_succ_eq_append_getElem h, recV, List.foldl_append]; rfl
theorem rinv_all {l : List Q} (hf : FitQ l) : ∀ (rs : List Rc) (s : St), RInv l s → RInv l (rs.foldl applyV s)
  | [], s, h => h
  | r :: t, s, h => rinv_all hf t (applyV s r) (rinv_step h hf r)
theorem rinv_rec {l : List Q} (hf : FitQ l) (rs : List Rc) : RInv l (recV l rs) := rinv_all hf rs _ (rinv_new l)
end Go.Proofs.YtkpmocbfedgfhaaGreat

/-
  Rows of bytes that a call has made, and their text.
-/
namespace Go.Proofs.YtkpmocbfedgfhaaGreat
open Go.RowKit
set_option linter.unusedVariables false
theorem byteOf (x : Nat) (h : x < 256) : ((UInt8.ofNat x).toNat : Int) = (x : Int) := by rw [UInt8.toNat_ofNat']; omega
abbrev cells (l : List UInt8) : List Value := l.map (fun b => Value.int .u8 (b.toNat : Int))
theorem cells_snoc (l : List UInt8) (c : UInt8) (x : Int) (h : (c.toNat : Int) = x) : cells l ++ [.int .u8 x] = cells (l ++ [c]) := by simp [cells, h]

theorem Tryz.info5 : (Tryz.prog.info? 5).map (fun i => (i.zero, i.size, i.bytes)) = some (some (.int .u8 0), 1, 1) := by kernel_rfl

theorem own_empty (w : World) (t : TypeId) : (w.alloc (.cells #[] t)).ownsRow w.heap.size t 1 (.slice (some ⟨w.heap.size, 0, none⟩) 0 0) ([] : List UInt8).length (cells []) :=
  ⟨rfl, .inr ⟨w.heap.size, 0, #[], rfl, Nat.le_refl _, by show (w.heap.push _)[w.heap.size]? = _; simp, Nat.le_refl _, by unfold maxLen; omega, rfl, rfl⟩⟩
/-- one byte more: what is owned, and what lies below, behind the append -/
theorem row_step {w wr w1 : World} {B : Nat} {t : TypeId} {v v' : Value} {l : List UInt8} {c : UInt8} {x : Int} {o : Obj} (hb : Below B w wr) (hown : wr.ownsRow B t 1 v l.length (cells l))
    (h1 : w1.ownsRow B t 1 v' (l.length + 1) (cells l ++ [.int .u8 x])) (hg : (wr.alloc o).grownBy w1 v.ownBlock) (hc : (c.toNat : Int) = x) (hB : B ≤ wr.heap.size) :
    w1.ownsRow B t 1 v' (l ++ [c]).length (cells (l ++ [c])) ∧ Below B w w1 := by
  refine ⟨by rw [cells_snoc l c x hc] at h1; simpa using h1, (hb.alloc hB o).grown hg (by simp; omega) ?_⟩
  intro k hk
  rcases hown.2 with ⟨rfl, _⟩ | ⟨g, cap, cur, rfl, hg', _⟩
  · simp [Value.ownBlock] at hk
  · simp [Value.ownBlock] at hk; omega
/-- the text of the bytes that are owned -/
theorem own_str {w1 : World} {B : Nat} {v : Value} {l : List UInt8} (h : w1.ownsRow B 5 1 v l.length (cells l)) (hl : 1 ≤ l.length) :
    (convert 22 9 v).run Tryz.prog w1 = .ok (.string (bs l)) w1 := by
  rcases h.2 with ⟨_, h0⟩ | ⟨g, cap, cur, rfl, _⟩
  · omega
  · exact run_convert_bytes_back w1 22 9 5 ⟨g, 0, none⟩ cap l Tryz.underlying22 Tryz.underlying5 Tryz.underlying9 (fun j hj => by
      have := h.cellAt j (by omega)
      rw [Lib.add_plain, Nat.zero_add, this]
      simp [cells, hj])

end Go.Proofs.YtkpmocbfedgfhaaGreat

/-
  What the model's PutNum answers: seven bits a byte, the lowest first; a walk over the dump.
-/
namespace Go.Proofs.YtkpmocbfedgfhaaGreat
open Go.RowKit
def pn : Nat → Nat → List UInt8
  | 0, u => [UInt8.ofNat u]
  | f + 1, u => if u < 128 then [UInt8.ofNat u] else UInt8.ofNat (128 + u % 128) :: pn f (u / 128)
/-- the bytes of u: seven bits each, the lowest first, each but the last with 128 more -/
def put (u : Nat) : List UInt8 := pn u u
theorem pn_eq : ∀ (f g u : Nat), u ≤ f → u ≤ g → pn f u = pn g u := by
  intro f
  induction f with
  | zero =>
    intro g u h _
    have : u = 0 := by omega
    subst this
    cases g <;> simp [pn]
  | succ f ih =>
    intro g u h1 h2
    cases g with
    | zero =>
      have : u = 0 := by omega
      subst this
      simp [pn]
    | succ g =>
      by_cases hu : u < 128
      · simp [pn, hu]
      · simp only [pn, hu, if_false]
        rw [ih g (u / 128) (by omega) (by omega)]
theorem put_small {u : Nat} (h : u < 128) : put u = [UInt8.ofNat u] := by
  unfold put
  cases u <;> simp [pn]
  omega
theorem put_step {u : Nat} (h : ¬ u < 128) : put u = UInt8.ofNat (128 + u % 128) :: put (u / 128) := by
  unfold put
  cases u with
  | zero => omega
  | succ u =>
    rw [pn, if_neg h, pn_eq u ((u + 1) / 128) ((u + 1) / 128) (by omega) (by omega)]
theorem put_len : ∀ (k u : Nat), u < 128 ^ (k + 1) → (put u).length ≤ k + 1 := by
  intro k
  induction k with
  | zero => intro u h; rw [put_small (by simpa using h)]; simp
  | succ k ih =>
    intro u h
    by_cases hu : u < 128
    · rw [put_small hu]; simp
    · rw [put_step hu]
      have := ih (u / 128) (by rw [Nat.pow_succ] at h; omega)
      simp only [List.length_cons]; omega
theorem put_pos (u : Nat) : 1 ≤ (put u).length := by
  by_cases hu : u < 128
  · rw [put_small hu]; simp
  · rw [put_step hu]; simp
theorem put_le5 {u : Nat} (h : u ≤ 4000000000) : (put u).length ≤ 5 := put_len 4 u (by omega)
def putNum (n : Int) : List UInt8 := if 0 ≤ n ∧ n ≤ 4000000000 then put n.toNat else []

set_option maxRecDepth 100000 in
set_option maxHeartbeats 1000000 in
theorem specPutNum_yes (N : Nat) (w : World) (hN : N ≤ 4000000000) :
    Calls Tryz.prog 119 #[.int .i64 (N : Int)] w fun e w' => e = .returned (.string (bs (put N))) ∧ Below w.heap.size w w' := by
  obtain ⟨i0, hi, hz0, hz1, hz2⟩ := info_parts Tryz.info5
  have e0 : inB (N : Int) 0 4000000000 = true := inB_true (by omega) (by omega)
  have hl5 := put_le5 hN
  go_enter Tryz.func119, Tryz.ntmps119
  go_wp2_with (go_at_call 26; refine (l01In_any _ _ _ _).mono ?_; rintro e w' ⟨rfl, rfl⟩)
  go_loopw [0, 3] (fun n o wr => ∃ (u : Nat) (l : List UInt8), u ≤ N ∧ n = .int .i64 (u : Int) ∧ l ++ put u = put N ∧ wr.ownsRow w.heap.size 5 1 o l.length (cells l) ∧ Below w.heap.size w wr) (fun n _ _ => (intOf n).toNat)
  case atStart => exact ⟨N, [], Nat.le_refl _, rfl, rfl, own_empty w 5, (Below.refl _ _).alloc (Nat.le_refl _) _⟩
  case round =>
    obtain ⟨u, l, hu, rfl, hcat, hown, hbel⟩ := hrel
    have hl : l.length ≤ 4 := by have := congrArg List.length hcat; have := put_pos u; simp only [List.length_append] at *; omega
    have hsz := hbel.size
    have HC := hide hcat
    clear hcat
    by_cases hu0 : u < 128
    · have hx : Hid (((UInt8.ofNat u).toNat : Int) = (u : Int)) := hide (byteOf u (by omega))
      go_wp2_with (at_builtin; refine wpList_append_own _ rfl _ _ 22 rfl w.heap.size 5 i0 (.int .u8 0) 1 1 Tryz.underlying22 hi hz0 hz1 hz2 rfl (by decide) _ _ _ rfl (hown.alloc _) ⟨wr.heap.size, 0, none⟩ 1 1 [.int .u8 (u : Int)] rfl rfl ?c1 ?c2 ?c3 ?c4 ?c5 ?_)
      case c1 => intro j v hj; match j, hj with | 0, hj => simp at hj; subst hj; simp [Addr.add]
      case c2 => intro v hv; simp at hv; subst hv; rfl
      case c3 => unfold maxLen; omega
      case c4 => omega
      case c5 => simp; omega
      intro v' w1 hown' hgrow _
      have R := row_step (B := w.heap.size) hbel hown hown' hgrow (unhide hx) (by omega)
      have hc := own_str R.1 (by simp)
      have HB := hide R.2
      have HP : Hid (l ++ [UInt8.ofNat u] = put N) := hide (by rw [← unhide HC, put_small hu0])
      clear hown' hgrow hown hbel R
      go_wp2
      go_ret
      exact ⟨ret_str (congrArg bs (unhide HP)), unhide HB⟩
    · have hx : Hid (((UInt8.ofNat (128 + u % 128)).toNat : Int) = 128 + (u : Int) % 128) := hide (byteOf (128 + u % 128) (by omega))
      go_wp2_with (at_builtin; refine wpList_append_own _ rfl _ _ 22 rfl w.heap.size 5 i0 (.int .u8 0) 1 1 Tryz.underlying22 hi hz0 hz1 hz2 rfl (by decide) _ _ _ rfl (hown.alloc _) ⟨wr.heap.size, 0, none⟩ 1 1 [.int .u8 (128 + (u : Int) % 128)] rfl rfl ?d1 ?d2 ?d3 ?d4 ?d5 ?_)
      case d1 => intro j v hj; match j, hj with | 0, hj => simp at hj; subst hj; simp [Addr.add]
      case d2 => intro v hv; simp at hv; subst hv; rfl
      case d3 => unfold maxLen; omega
      case d4 => omega
      case d5 => simp; omega
      intro v' w1 hown' hgrow _
      have R := row_step (B := w.heap.size) hbel hown hown' hgrow (unhide hx) (by omega)
      clear hown' hgrow hown hbel
      go_wp2
      go_roundw
      case rel => exact ⟨u / 128, l ++ [UInt8.ofNat (128 + u % 128)], by omega, by go_num, by rw [← unhide HC, put_step hu0]; simp, R.1, R.2⟩
      case measure => simp [intOf]; omega

set_option maxHeartbeats 400000 in
theorem specPutNum_no (n : Int) (w : World) (h : ¬ (0 ≤ n ∧ n ≤ 4000000000)) :
    Calls Tryz.prog 119 #[.int .i64 n] w fun e w' => e = .returned (.string (bs [])) ∧ Below w.heap.size w w' := by
  have e0 : inB n 0 4000000000 = false := inB_false h
  clear h
  go_enter Tryz.func119, Tryz.ntmps119
  go_wp2_with (go_at_call 26; refine (l01In_any _ _ _ _).mono ?_; rintro e w' ⟨rfl, rfl⟩)
  go_ret
  exact ⟨rfl, Below.refl _ _⟩

theorem specPutNum_any (n : Int) (w : World) :
    Calls Tryz.prog 119 #[.int .i64 n] w fun e w' => e = .returned (.string (bs (putNum n))) ∧ Below w.heap.size w w' := by
  by_cases h : 0 ≤ n ∧ n ≤ 4000000000
  · rw [putNum, if_pos h]
    obtain ⟨N, rfl⟩ := Int.eq_ofNat_of_zero_le h.1
    exact specPutNum_yes N w (by omega)
  · rw [putNum, if_neg h]
    exact specPutNum_no n w h
end Go.Proofs.YtkpmocbfedgfhaaGreat
