/-
  Several texts of this claim in one: TakB, AppR, StEnd, BlM, ResI, In, Res, All, NameS, Digit, Name, Place, QSum, QueuesOkM (pack.py put them together); each says in its own remark what is proved.
-/
import Derived.Test.YtgdndekmkaknlaaGreatPackG
import Derived.Test.YtgdndekmkaknlaaGreatTakC
import Derived.Test.YtgdndekmkaknlaaGreatPackD
import Derived.Test.YtgdndekmkaknlaaGreatPackF
import Derived.Shelf.Abstract
import Derived.OneCell
import Derived.Deep.CutBlock
import Derived.Deep.CutRange
import Derived.ArgAppend
import Derived.Deep.AppendLies
import Derived.Test.YtgdndekmkaknlaaGreatPackA
import Derived.Laws.Rows
import Derived.Laws.Tables
/-
  Containers, an application, a machine taken out of a state that is the caller's own: what the program's takeConts, drop and lose leave; walks over the dump.
-/
namespace Go.Proofs.YtgdndekmkaknlaaGreat
open Go.RowKit
set_option linter.unusedVariables false
theorem own_mkt {B b N : Nat} {w w' : World} {t t' : TypeId} {sz n : Nat} {ao : Option Addr} (h : Own1 B w.heap.size w t sz ao n) (hm : Mks (fun k => k = b) w w') (hc : Cel w t' b N) (ht : t' ≠ t) : (∀ k, inR ao n k → ¬ (k = b)) ∧ Own1 B w'.heap.size w' t sz ao n := by
  refine ⟨fun k hk e => ?_, (h.mks hm).mono (Nat.le_refl _) hm.size⟩
  obtain ⟨_, _, N', h2⟩ := h.lies k hk
  subst e
  exact ht (hc.type h2)
theorem QHas.mkt {B b n : Nat} {w w' : World} {ao : Option Addr} {l : List Q} {arr : Array Value} (h : QHas B w ao n l) (hm : Mks (fun k => k = b) w w') (hc : Blk w b arr 29) : QHas B w' ao n l :=
  ⟨h.1.mks hm (own_mkt h.2 hm ⟨_, hc, rfl⟩ (by decide)).1, (own_mkt h.2 hm ⟨_, hc, rfl⟩ (by decide)).2⟩
theorem MHas.mkt {B b n : Nat} {w w' : World} {ao : Option Addr} {l : List Mac} {arr : Array Value} (h : MHas B w ao n l) (hm : Mks (fun k => k = b) w w') (hc : Blk w b arr 29) : MHas B w' ao n l :=
  ⟨h.1.mks hm (own_mkt h.2 hm ⟨_, hc, rfl⟩ (by decide)).1, (own_mkt h.2 hm ⟨_, hc, rfl⟩ (by decide)).2⟩
theorem CHas.mkt {B b n : Nat} {w w' : World} {ao : Option Addr} {l : List Con} {arr : Array Value} (h : CHas B w ao n l) (hm : Mks (fun k => k = b) w w') (hc : Blk w b arr 29) : CHas B w' ao n l :=
  ⟨h.1.mks hm (own_mkt h.2 hm ⟨_, hc, rfl⟩ (by decide)).1, (own_mkt h.2 hm ⟨_, hc, rfl⟩ (by decide)).2⟩
theorem PHas.mkt {B b n : Nat} {w w' : World} {ao : Option Addr} {l : List AV} {arr : Array Value} (h : PHas B w ao n l) (hm : Mks (fun k => k = b) w w') (hc : Blk w b arr 29) : PHas B w' ao n l :=
  ⟨h.1.mks hm (own_mkt h.2 hm ⟨_, hc, rfl⟩ (by decide)).1, (own_mkt h.2 hm ⟨_, hc, rfl⟩ (by decide)).2⟩
theorem KHas.mkt {B b : Nat} {w w' : World} {hs : List AV} {l : List Appl} {arr : Array Value} (h : KHas B w hs l) (hm : Mks (fun k => k = b) w w') (hc : Blk w b arr 29) : KHas B w' hs l :=
  ⟨⟨h.heads.1, fun i h1 h2 => let ⟨a, b', c, d⟩ := h.heads.2 i h1 h2; ⟨a, b', c.mks hm (own_mkt (h.own _ (List.getElem_mem h1)) hm ⟨_, hc, rfl⟩ (by decide)).1, d⟩⟩, fun v hv => (own_mkt (h.own v hv) hm ⟨_, hc, rfl⟩ (by decide)).2, h.apart⟩
theorem QHas.base {B B' n : Nat} {w : World} {ao : Option Addr} {l : List Q} (h : QHas B w ao n l) (hb : B' ≤ B) : QHas B' w ao n l := ⟨h.1, h.2.mono hb (Nat.le_refl _)⟩
theorem MHas.base {B B' n : Nat} {w : World} {ao : Option Addr} {l : List Mac} (h : MHas B w ao n l) (hb : B' ≤ B) : MHas B' w ao n l := ⟨h.1, h.2.mono hb (Nat.le_refl _)⟩
theorem PHas.base {B B' n : Nat} {w : World} {ao : Option Addr} {l : List AV} (h : PHas B w ao n l) (hb : B' ≤ B) : PHas B' w ao n l := ⟨h.1, h.2.mono hb (Nat.le_refl _)⟩
theorem KHas.base {B B' : Nat} {w : World} {hs : List AV} {l : List Appl} (h : KHas B w hs l) (hb : B' ≤ B) : KHas B' w hs l := ⟨h.heads, fun v hv => (h.own v hv).mono hb (Nat.le_refl _), h.apart⟩

/-- what is left of the heads and of the applications -/
theorem heads_nil (w : World) : Heads w [] [] := ⟨rfl, fun i h => absurd h (by simp)⟩
theorem heads_cons {w : World} {v : AV} {t : List AV} {a : Appl} {s : List Appl} (h : Heads w (v :: t) (a :: s)) : (v.id = a.id ∧ v.queue = a.queue ∧ AskRow w v.ao v.len a.asks ∧ v.len ≤ v.cap) ∧ Heads w t s :=
  ⟨h.2 0 (by simp) (by simp), by simpa using h.1, fun i h1 h2 => by have := h.2 (i + 1) (by simpa using h1) (by simpa using h2); simpa using this⟩
theorem heads_put {w : World} {v : AV} {t : List AV} {a : Appl} {s : List Appl} (h : v.id = a.id ∧ v.queue = a.queue ∧ AskRow w v.ao v.len a.asks ∧ v.len ≤ v.cap) (h' : Heads w t s) : Heads w (v :: t) (a :: s) :=
  ⟨by simp [h'.1], fun i h1 h2 => by
    cases i with
    | zero => exact h
    | succ i => exact h'.2 i (by simpa using h1) (by simpa using h2)⟩
theorem heads_filter {w : World} (f : Int → Bool) : ∀ (hs : List AV) (l : List Appl), Heads w hs l → Heads w (hs.filter (fun v => f v.id)) (l.filter (fun a => f a.id))
  | [], [], _ => heads_nil w
  | [], a :: s, h => absurd h.1 (by simp)
  | v :: t, [], h => absurd h.1 (by simp)
  | v :: t, a :: s, h => by
    obtain ⟨h1, h2⟩ := heads_cons h
    have ih := heads_filter f t s h2
    cases hf : f a.id with
    | true => rw [List.filter_cons_of_pos (by simpa [h1.1] using hf), List.filter_cons_of_pos (by simpa using hf)]; exact heads_put h1 ih
    | false => rw [List.filter_cons_of_neg (by simp [h1.1, hf]), List.filter_cons_of_neg (by simp [hf])]; exact ih
theorem KHas.filter {B : Nat} {w : World} {hs : List AV} {l : List Appl} (h : KHas B w hs l) (f : Int → Bool) : KHas B w (hs.filter (fun v => f v.id)) (l.filter (fun a => f a.id)) :=
  ⟨heads_filter f hs l h.heads, fun v hv => h.own v (List.mem_filter.1 hv).1, h.apart.filter _⟩

theorem TakC.stays {w : World} {g N : Nat} {l gl : List Con} (h : TakC w g (N * 5) l gl) (hl : l.length ≤ N) : CHas g w (some ⟨g, 0, none⟩) l.length l := by
  obtain ⟨v, _, hly, _⟩ := h
  exact ⟨hly.rowC, .inr ⟨g, N, rfl, Nat.le_refl _, hly.lt, hly.cel, hl⟩⟩
theorem TakP.stays {w : World} {g N : Nat} {l gl : List AV} (h : TakP w g (N * 3) l gl) (hl : l.length ≤ N) : PHas g w (some ⟨g, 0, none⟩) l.length l := by
  obtain ⟨v, _, hly, _⟩ := h
  exact ⟨hly.rowP, .inr ⟨g, N, rfl, Nat.le_refl _, hly.lt, hly.cel, hl⟩⟩

/-- what takeConts leaves: the box of the state bears the containers that stay; those that are gone are handed back -/
def TkAns (w : World) (b : Nat) (x : Sls) (s : St) (p : Con → Bool) (e : Ending) (w' : World) : Prop :=
  ∃ go gn gc, e = .returned (.slice go gn gc) ∧ Blk w' b (svc ⟨x.qa, x.ql, x.qc, x.aa, x.al, x.ac, x.ma, x.ml, x.mc, some ⟨w.heap.size, 0, none⟩, (s.cs.filter (fun q => !p q)).length, (s.cs.filter (fun q => !p q)).length⟩ s) 29
    ∧ CHas w.heap.size w' (some ⟨w.heap.size, 0, none⟩) (s.cs.filter (fun q => !p q)).length (s.cs.filter (fun q => !p q)) ∧ CHas (w.heap.size + 2) w' go gn (s.cs.filter p) ∧ Mks (fun k => k = b) w w'

theorem mks_of {b N : Nat} {w w' : World} {t : TypeId} {arr : Array Value} (hb : Below w.heap.size w w') (hk : Blk w b arr t) (v : Value) (j : Nat) : Mks (fun k => k = b) w (w'.setCell ⟨b, j, none⟩ v) := (Mks.of_below hb).sc b j v rfl

set_option maxRecDepth 100000 in
set_option maxHeartbeats 2000000 in
theorem takeConts_any (gf : Nat) (lb : Array Value) (eg : ∀ args w, (callFunc gf args).run Tryz.prog w = .ok (.enter gf args) w) (p : Con → Bool) (b : Nat) (x : Sls) (s : St) (w : World) (hk : Blk w b (svc x s) 29) (h : ConRow w x.ca x.cl s.cs) (hl : x.cl ≤ 1048576)
    (hp : ∀ wx q, q ∈ s.cs → Below w.heap.size w wx → Calls Tryz.prog gf (#[conv q] ++ lb) wx fun e w' => e = .returned (.bool (p q)) ∧ Below wx.heap.size wx w') :
    Calls Tryz.prog 104 #[.pointer (some ⟨b, 0, none⟩), .func (.func gf) #[] lb] w (TkAns w b x s p) := by
  obtain ⟨qa, ql, qc, aa, al, ac, ma, ml, mc, ca, cl, cc⟩ := x
  obtain ⟨qs, clock, epoch, next, serial, apps, ms, cs⟩ := s
  simp only at *
  have CT := hide (takingFromC_any ca cl cc cs w h hl)
  have HLN := hide h.1
  have HK := hide hk
  have HP := hide hp
  have d7 := hk.at 7
  have hbs := hk.lt
  simp at d7
  clear h hk hp
  go_enter Tryz.func104, Tryz.ntmps104
  go_wp2_with fail
  refine (unhide CT).mono ?_
  rintro e w1 ⟨rfl, ht, hs1, hb⟩
  have CA := hide (takeAllC_any gf lb eg p w.heap.size (cl * 5) cs [] w1 ht (by have := unhide HLN; simp; omega) (fun wx q hq hbx => unhide HP wx q hq (hb.trans hbx)))
  have HB1 := hide hb
  clear ht hb CT hs1
  go_wp2_with fail
  refine (unhide CA).mono ?_
  rintro e w2 ⟨rfl, ht, hb⟩
  have HB2 := hide ((unhide HB1).trans hb)
  have HST := hide (ht.stays (by have := unhide HLN; have := List.length_filter_le (fun q => !p q) cs; omega))
  obtain ⟨v, hbk, hly, how⟩ := ht
  obtain ⟨go, gc, rfl, hgc, hgo⟩ := cown_has how
  rw [List.nil_append] at hgo hbk
  have HGO := hide hgo
  have k0 := hbk.at 0
  have k1 := hbk.at 1
  obtain ⟨n1, hn1⟩ : ∃ n, (cs.filter (fun q => !p q)).length = n := ⟨_, rfl⟩
  obtain ⟨n2, hn2⟩ : ∃ n, (cs.filter p).length = n := ⟨_, rfl⟩
  rw [hn1] at k0 k1
  rw [hn2] at k0 k1
  simp at k0 k1
  have K2 := hide (show Blk w2 b _ 29 from ((unhide HB2).block b hbs).trans (unhide HK))
  have e7 := (unhide K2).at 7
  have f7 := (unhide K2).f 7
  simp at e7
  have hz2 : w.heap.size + 1 < w2.heap.size := hbk.lt
  have HN1 := hide hn1
  have HN2 := hide hn2
  have hne : ¬ (b = w.heap.size + 1) := by omega
  have hne2 : ¬ (w.heap.size + 1 = b) := by omega
  clear hbk hly how hb HB1 CA d7 hgo hgc hn1 hn2
  go_wp2
  go_ret
  refine ⟨go, n2, gc, rfl, ?_, ?_, ?_, ?_⟩
  · show Blk _ b #[.slice qa ql qc, .int .i64 clock, .int .i64 epoch, .int .i64 next, .int .i64 serial, .slice aa al ac, .slice ma ml mc, .slice _ (cs.filter (fun q => !p q)).length (cs.filter (fun q => !p q)).length] _
    rw [unhide HN1]
    exact (unhide K2).set 7 _
  · have hm : Mks (fun k => k = b) w2 (w2.setCell ⟨b, 7, none⟩ (.slice (some ⟨w.heap.size, 0, none⟩) n1 n1)) := Mks.one _ _ _ _ _ rfl
    exact (unhide HST).mkt hm (unhide K2)
  · have hm : Mks (fun k => k = b) w2 (w2.setCell ⟨b, 7, none⟩ (.slice (some ⟨w.heap.size, 0, none⟩) n1 n1)) := Mks.one _ _ _ _ _ rfl
    have := (unhide HGO).mkt hm (unhide K2)
    rw [unhide HN2] at this
    exact this
  · exact mks_of (N := 0) (unhide HB2) (unhide HK) _ 7

/-- a state that owns its lists, from B on -/
structure SHas (B : Nat) (w : World) (x : Sls) (s : St) (hs : List AV) : Prop where
  q : QHas B w x.qa x.ql s.qs
  p : PHas B w x.aa x.al hs
  k : KHas B w hs s.apps
  m : MHas B w x.ma x.ml s.ms
  c : CHas B w x.ca x.cl s.cs
  cap : SCap x
  rm : RmS B w.heap.size w x hs
theorem SHas.below {B : Nat} {w w' : World} {x : Sls} {s : St} {hs : List AV} (h : SHas B w x s hs) (hb : Below w.heap.size w w') : SHas B w' x s hs := ⟨h.q.below hb, h.p.below hb, h.k.below hb, h.m.below hb, h.c.below hb, h.cap, (h.rm.below hb).mono (Nat.le_refl _) hb.size⟩
theorem SHas.mkt {B b : Nat} {w w' : World} {x : Sls} {s : St} {hs : List AV} {arr : Array Value} (h : SHas B w x s hs) (hm : Mks (fun k => k = b) w w') (hc : Blk w b arr 29) : SHas B w' x s hs := ⟨h.q.mkt hm hc, h.p.mkt hm hc, h.k.mkt hm hc, h.m.mkt hm hc, h.c.mkt hm hc, h.cap, (h.rm.mks hm).mono (Nat.le_refl _) hm.size⟩
theorem SHas.base {B B' : Nat} {w : World} {x : Sls} {s : St} {hs : List AV} (h : SHas B w x s hs) (hb : B' ≤ B) : SHas B' w x s hs := ⟨h.q.base hb, h.p.base hb, h.k.base hb, h.m.base hb, h.c.base hb, h.cap, h.rm.mono hb (Nat.le_refl _)⟩
theorem SHas.ans {B : Nat} {w : World} {x : Sls} {s : St} {hs : List AV} (h : SHas B w x s hs) : SAns B w.heap.size w x s hs := sans_of h.q h.p h.k h.m h.c h.cap h.rm
theorem SAns.has {B E : Nat} {w : World} {x : Sls} {s : St} {hs : List AV} (h : SAns B E w x s hs) (hE : E ≤ w.heap.size) : SHas B w x s hs :=
  ⟨⟨h.row.1, h.q.mono (Nat.le_refl _) hE⟩, ⟨h.av, h.a.mono (Nat.le_refl _) hE⟩, ⟨h.heads, fun v hv => (h.asks v hv).mono (Nat.le_refl _) hE, h.apart⟩, ⟨h.row.2.2.1, h.m.mono (Nat.le_refl _) hE⟩, ⟨h.row.2.2.2, h.c.mono (Nat.le_refl _) hE⟩, h.cap, h.rm.mono (Nat.le_refl _) hE⟩
/-- behind a call that takes out of the state in box b: the state that is left, and what is gone -/
def TkSt (B : Nat) (w : World) (b : Nat) (s : St) (hs : List AV) (gone : List Con) (e : Ending) (w' : World) : Prop :=
  ∃ y go gn gc, e = .returned (.slice go gn gc) ∧ Blk w' b (svc y s) 29 ∧ SHas B w' y s hs ∧ CHas w.heap.size w' go gn gone ∧ (∀ k, inR go gn k → ¬ inR y.ca y.cl k) ∧ Mks (fun k => k = b) w w'
theorem takeConts_st {B : Nat} (gf : Nat) (lb : Array Value) (eg : ∀ args w, (callFunc gf args).run Tryz.prog w = .ok (.enter gf args) w) (p : Con → Bool) (b : Nat) (x : Sls) (s : St) (hs : List AV) (w : World) (hk : Blk w b (svc x s) 29) (h : SHas B w x s hs) (hB : B ≤ w.heap.size) (hl : x.cl ≤ 1048576)
    (hp : ∀ wx q, q ∈ s.cs → Below w.heap.size w wx → Calls Tryz.prog gf (#[conv q] ++ lb) wx fun e w' => e = .returned (.bool (p q)) ∧ Below wx.heap.size wx w') :
    Calls Tryz.prog 104 #[.pointer (some ⟨b, 0, none⟩), .func (.func gf) #[] lb] w (TkSt B w b ⟨s.qs, s.clock, s.epoch, s.next, s.serial, s.apps, s.ms, s.cs.filter (fun q => !p q)⟩ hs (s.cs.filter p)) := by
  refine (takeConts_any gf lb eg p b x s w hk h.c.1 hl hp).mono ?_
  rintro e w' ⟨go, gn, gc, rfl, h1, h2, h3, hm⟩
  refine ⟨_, go, gn, gc, rfl, h1, ⟨h.q.mkt hm hk, h.p.mkt hm hk, h.k.mkt hm hk, h.m.mkt hm hk, h2.base hB, ⟨h.cap.q, h.cap.a, h.cap.m, Nat.le_refl _⟩, (fun r => ⟨r.1, r.2.1, r.2.2.1, (h2.base hB).2, r.2.2.2.2⟩) ((h.rm.mks hm).mono (Nat.le_refl _) hm.size)⟩, h3.base (by omega), fun k hk1 hk2 => ?_, hm⟩
  obtain ⟨a1, _⟩ := h3.2.lies k hk1
  obtain ⟨_, o, e⟩ := hk2
  cases e
  omega

set_option maxRecDepth 100000 in
set_option maxHeartbeats 1000000 in
theorem dropP_clo (k : Nat) (app : Int) (v : AV) (w : World) (h : w.cell? ⟨k, 0, none⟩ = some (.int .i64 app)) :
    Calls Tryz.prog 103 #[avv v, .pointer (some ⟨k, 0, none⟩)] w fun e w' => e = .returned (.bool (decide (v.id = app))) ∧ Below w.heap.size w w' := by
  obtain ⟨vi, vq, va, vl, vc⟩ := v
  have hks := cell_lt h
  have HB := hide (below_al (Below.refl _ w) (.cells #[.int .i64 vi, .string (bs vq), .slice va vl vc] 71))
  go_enter Tryz.func103, Tryz.ntmps103
  go_wp2
  go_ret
  exact ⟨rfl, unhide HB⟩
set_option maxRecDepth 100000 in
set_option maxHeartbeats 1000000 in
theorem dropC_clo (k : Nat) (app : Int) (q : Con) (w : World) (h : w.cell? ⟨k, 0, none⟩ = some (.int .i64 app)) :
    Calls Tryz.prog 105 #[conv q, .pointer (some ⟨k, 0, none⟩)] w fun e w' => e = .returned (.bool (decide (q.app = app))) ∧ Below w.heap.size w w' := by
  obtain ⟨id, ap, nd, me, cp⟩ := q
  have hks := cell_lt h
  have HB := hide (below_al (Below.refl _ w) (.cells #[.int .i64 id, .int .i64 ap, .string (bs nd), .int .i64 me, .int .i64 cp] 105))
  go_enter Tryz.func105, Tryz.ntmps105
  go_wp2
  go_ret
  exact ⟨rfl, unhide HB⟩
end Go.Proofs.YtgdndekmkaknlaaGreat

/-
  One more appended to a row that has the room that it says, or none: in place, or in a new block.
-/
namespace Go.Proofs.YtgdndekmkaknlaaGreat
open Go.RowKit
set_option linter.unusedVariables false
theorem lay_of {w : World} {t : TypeId} {g N : Nat} {cs : List Value} (hc : Cel w t g N) (h : ∀ j u, cs[j]? = some u → w.cell? ⟨g, j, none⟩ = some u) (hl : cs.length ≤ N) : Lay w t g N cs := by
  obtain ⟨arr, h1, h2⟩ := hc
  refine ⟨arr.toList.drop cs.length, ?_, by simp; omega⟩
  have e : cs ++ arr.toList.drop cs.length = arr.toList := by
    apply List.ext_getElem?
    intro j
    by_cases hj : j < cs.length
    · rw [List.getElem?_append_left hj]
      have h3 := h j cs[j] (List.getElem?_eq_getElem hj)
      simp [World.cell?, h1] at h3
      rw [List.getElem?_eq_getElem hj, Array.getElem?_toList]
      exact h3.symm
    · rw [List.getElem?_append_right (by omega), List.getElem?_drop]
      congr 1
      omega
  rw [e]
  simpa using h1
/-- many cells of the block are stored -/
theorem mks_cells {S : Nat → Prop} {g : Nat} (hg : S g) : ∀ (vs : List Value) (o : Nat) (a w : World), Mks S a w → Mks S a (w.setCells g o vs)
  | [], _, _, _, h => h
  | v :: r, o, a, w, h => mks_cells hg r (o + 1) a _ (h.sc g o v hg)
theorem Cel.isThere {w : World} {t : TypeId} {g N : Nat} (h : Cel w t g N) {j : Nat} (hj : j < N) : (w.cell? ⟨g, j, none⟩).isSome = true := by
  obtain ⟨arr, h1, h2⟩ := h
  have h3 : j < arr.size := by omega
  simp [World.cell?, h1, h3]
theorem below_none {w w' : World} (h : w.grownBy w' none) : Below w.heap.size w w' := (Below.refl _ w).grown h (Nat.le_refl _) (fun k e => by cases e)
/-- what stands behind the append: the row, its room, and that nothing else has turned -/
structure AppR (B : Nat) (w : World) (e : TypeId) (sz : Nat) (ao : Option Addr) (n : Nat) (all : List Value) (g cap : Nat) (w' : World) : Prop where
  cells : ∀ j u, all[j]? = some u → w'.cell? ⟨g, j, none⟩ = some u
  own : Own1 B w'.heap.size w' e sz (some ⟨g, 0, none⟩) cap
  cap : n ≤ cap
  mks : Mks (fun k => ∃ N, Cel w e k N ∧ B ≤ k) w w'
theorem wpList_append_rm {P : Program} (w : World) {ops : Array Oper} {rest : List Oper} {o : Oper} {a : Act} {Q : Exit → Act → World → Prop} (hgd : o.guard = none) (s x : Operand) (t : TypeId)
    (ho : o.op = .call { callee := .builtin .append, args := #[s, x], argTypes := #[t, t] })
    (e : TypeId) (i : TypeInfo) (z : Value) (size bytes : Nat) (ht : P.underlying t = some (.slice e)) (hi : P.info? e = some i) (hz : i.zero = some z)
    (hsize : i.size = size) (hby : i.bytes = bytes) (hzs : z.cells.size = size) (hsz : 0 < size)
    (B E : Nat) (ao : Option Addr) (n cap : Nat) (olds : List Value) (hs : a.eval s = .slice ao n cap) (hrm : Own1 B E w e size ao cap) (hnc : n ≤ cap) (hB : B ≤ w.heap.size)
    (hlo : olds.length = n * size) (holds : ∀ b off, ao = some ⟨b, off, none⟩ → ∀ j u, olds[j]? = some u → w.cell? ⟨b, off + j, none⟩ = some u)
    (ad : Addr) (m c : Nat) (news : List Value) (hx : a.eval x = .slice (some ad) m c) (hn : news.length = m * size) (hc : ∀ j u, news[j]? = some u → w.cell? (ad.add j) = some u) (h1c : ∀ u ∈ news, u.oneCell' = true) (hm : 0 < m)
    (b1 : n + m ≤ maxLen) (b2 : (n + m) * bytes ≤ 140737488355328)
    (h : ∀ g cap' w', AppR B w e size ao (n + m) (olds ++ news) g cap' w' → wpList P ops Q rest (a.put o.dst (.slice (some ⟨g, 0, none⟩) (n + m) cap')) w') : wpList P ops Q (o :: rest) a w := by
  by_cases hr : n + m ≤ cap
  · rcases hrm with e0 | ⟨g, M, rfl, h1, h2, h3, h4⟩
    · omega
    · have hle : (n + m) * size ≤ M * size := Nat.mul_le_mul_right _ (by omega)
      rw [Nat.add_mul] at hle
      refine wpList_append_arg w hgd s x t ho e i z size bytes ht hi hz hsize hby hzs hsz g 0 n cap olds hs hlo (fun j u hj => holds g 0 rfl j u hj) ad m c news hx hn hc h1c (fun _ j hj => ⟨h3.isThere (by omega), h3.frozen _⟩) b1 b2 (fun _ => h g cap _ ⟨fun j u hj => ?_, ?_, hr, mks_cells ⟨_, h3, h1⟩ _ _ _ _ (Mks.refl _ _)⟩) (fun hlt => by omega)
      · by_cases hj2 : j < olds.length
        · rw [List.getElem?_append_left hj2] at hj
          rw [World.cell?_setCells_out g news (0 + n * size) w ⟨g, j, none⟩ (fun _ _ => by left; show j < 0 + n * size; omega)]
          have := holds g 0 rfl j u hj
          rwa [Nat.zero_add] at this
        · rw [List.getElem?_append_right (by omega)] at hj
          have hjl : j - olds.length < news.length := (List.getElem?_eq_some_iff.1 hj).1
          have := World.cell?_setCells_in g news (0 + n * size) w (fun k hk => h3.isThere (by omega)) (j - olds.length) hjl
          rw [show 0 + n * size + (j - olds.length) = j by omega] at this
          rw [this]
          rw [List.getElem?_eq_getElem hjl] at hj
          exact hj
      · have hk : Mks (fun k => k = g) w (w.setCells g (0 + n * size) news) := mks_cells (S := fun k => k = g) rfl _ _ _ _ (Mks.refl _ _)
        exact .inr ⟨g, M, rfl, h1, Nat.lt_of_lt_of_le h3.lt hk.size, hk.cel _ _ _ h3, h4⟩
  · have hnone : ao = none → n = 0 ∧ cap = 0 := fun e0 => by
      rcases hrm with h0 | ⟨g, M, h1, _⟩
      · omega
      · rw [e0] at h1; cases h1
    refine wpList_append_grows w hgd s x t ho e i z size bytes ht hi hz hsize hby hzs hsz ao n cap olds hs hnone hlo (fun b hb j u hj => ?_) ad m c news hx hn hc h1c (by omega) b1 b2 (fun v' w' h1 h2 => ?_)
    · rcases hrm with h0 | ⟨g, M, h1, _⟩
      · have hn0 : n = 0 := by omega
        rw [hn0, Nat.zero_mul] at hlo
        rw [List.eq_nil_of_length_eq_zero hlo] at hj
        simp at hj
      · obtain rfl := Option.some.inj (hb.symm.trans h1)
        rw [Addr.add_lit]
        exact holds g 0 hb j u hj
    · obtain ⟨g, cap', rfl, hg1, hg2⟩ := h1.form (by omega)
      have hb := below_none h2
      rcases h1.2 with ⟨e0, _⟩ | ⟨g', c', cur, e0, k1, k2, k3, k4, k5, k6⟩
      · cases e0
      · cases e0
        refine h g cap' w' ⟨fun j u hj => ?_, .inr ⟨g, cap', rfl, by omega, lt_of_block k2, ⟨cur, k2, k5⟩, Nat.le_refl _⟩, k3, Mks.of_below hb⟩
        have hjl : j < (olds ++ news).length := (List.getElem?_eq_some_iff.1 hj).1
        rw [← k6] at hj hjl
        rw [List.length_take] at hjl
        rw [List.getElem?_take_of_lt (by omega)] at hj
        simp [World.cell?, k2]
        simpa using hj
end Go.Proofs.YtgdndekmkaknlaaGreat

/-
  A state in its box, read and stored as a whole; rows of other types stand while a row of applications turns.
-/
namespace Go.Proofs.YtgdndekmkaknlaaGreat
open Go.RowKit
set_option linter.unusedVariables false
theorem st_info : (Tryz.prog.info? 29).map (·.size) = some 8 := by kernel_rfl
theorem st_load {w : World} {b : Nat} {arr : Array Value} (h : Blk w b arr 29) (hs : arr.size = 8) : (Instr.loadAt 29 (.pointer (some ⟨b, 0, none⟩))).run Tryz.prog w = .ok (.agg arr) w := by
  simp only [Instr.loadAt, Instr.sureAddr, Sem.run_bind, Sem.run_pure, Result.andThen]
  exact run_loadVar_row w b 29 29 arr (0, 0) _ h Tryz.underlying29 rfl (by rw [st_info, hs])
theorem st_store {w : World} {b : Nat} {old arr : Array Value} (h : Blk w b old 29) (ho : old.size = 8) (hs : arr.size = 8) (h1 : arr.all (·.oneCell') = true) : (Instr.storeAt 29 (.pointer (some ⟨b, 0, none⟩)) (.agg arr)).run Tryz.prog w = .ok () (w.setRow b arr) := by
  simp only [Instr.storeAt, Instr.sureAddr, Sem.run_bind, Sem.run_pure, Result.andThen]
  exact run_storeVar_row w b 29 29 old arr h (by rw [st_info, hs]) (by rw [ho, hs]) h1
theorem svc_one (x : Sls) (s : St) : (svc x s).all (·.oneCell') = true := by kernel_rfl
theorem blk_row {w : World} {b : Nat} {old : Array Value} {t : TypeId} (h : Blk w b old t) (arr : Array Value) : Blk (w.setRow b arr) b arr t := setRow_heap w b old arr t (0, 0) h
theorem mks_row {w : World} {b : Nat} {old : Array Value} {t : TypeId} (h : Blk w b old t) (arr : Array Value) (hs : arr.size = old.size) : Mks (fun k => k = b) w (w.setRow b arr) := by
  refine ⟨rfl, rfl, rfl, by rw [setRow_size]; exact Nat.le_refl _, fun k _ hk => setRow_other w b k arr hk, fun t' g N hc => ?_⟩
  by_cases e : g = b
  · subst e
    obtain ⟨c, h1, h2⟩ := hc
    rw [h] at h1
    cases h1
    exact ⟨arr, blk_row h arr, by omega⟩
  · exact hc.of_block (setRow_other w b g arr e)
theorem own_mkc {B : Nat} {S : Nat → Prop} {w w' : World} {t t' : TypeId} {sz n : Nat} {ao : Option Addr} (h : Own1 B w.heap.size w t sz ao n) (hm : Mks S w w') (hS : ∀ k, S k → ∃ N, Cel w t' k N) (ht : t' ≠ t) : (∀ k, inR ao n k → ¬ S k) ∧ Own1 B w'.heap.size w' t sz ao n := by
  refine ⟨fun k hk e => ?_, (h.mks hm).mono (Nat.le_refl _) hm.size⟩
  obtain ⟨_, _, N', h2⟩ := h.lies k hk
  obtain ⟨N, h3⟩ := hS k e
  exact ht (h3.type h2)
section
variable {B : Nat} {S : Nat → Prop} {w w' : World}
theorem QHas.mkc {n : Nat} {ao : Option Addr} {l : List Q} (h : QHas B w ao n l) (hm : Mks S w w') (hS : ∀ k, S k → ∃ N, Cel w 71 k N) : QHas B w' ao n l :=
  ⟨h.1.mks hm (own_mkc h.2 hm hS (by decide)).1, (own_mkc h.2 hm hS (by decide)).2⟩
theorem MHas.mkc {n : Nat} {ao : Option Addr} {l : List Mac} (h : MHas B w ao n l) (hm : Mks S w w') (hS : ∀ k, S k → ∃ N, Cel w 71 k N) : MHas B w' ao n l :=
  ⟨h.1.mks hm (own_mkc h.2 hm hS (by decide)).1, (own_mkc h.2 hm hS (by decide)).2⟩
theorem CHas.mkc {n : Nat} {ao : Option Addr} {l : List Con} (h : CHas B w ao n l) (hm : Mks S w w') (hS : ∀ k, S k → ∃ N, Cel w 71 k N) : CHas B w' ao n l :=
  ⟨h.1.mks hm (own_mkc h.2 hm hS (by decide)).1, (own_mkc h.2 hm hS (by decide)).2⟩
theorem KHas.mkc {hs : List AV} {l : List Appl} (h : KHas B w hs l) (hm : Mks S w w') (hS : ∀ k, S k → ∃ N, Cel w 71 k N) : KHas B w' hs l :=
  ⟨⟨h.heads.1, fun i h1 h2 => let ⟨a, b', c, d⟩ := h.heads.2 i h1 h2; ⟨a, b', c.mks hm (own_mkc (h.own _ (List.getElem_mem h1)) hm hS (by decide)).1, d⟩⟩, fun v hv => (own_mkc (h.own v hv) hm hS (by decide)).2, h.apart⟩
end
theorem Own1.le {B E : Nat} {w : World} {t : TypeId} {sz n m : Nat} {ao : Option Addr} (h : Own1 B E w t sz ao n) (hm : m ≤ n) : Own1 B E w t sz ao m := by
  rcases h with h | ⟨g, M, h1, h2, h3, h4, h5⟩
  · exact .inl (by omega)
  · exact .inr ⟨g, M, h1, h2, h3, h4, by omega⟩
/-- one more application, without an ask, behind the others -/
theorem SHas.add {B g cap : Nat} {w w' : World} {x : Sls} {s : St} {hs : List AV} (h : SHas B w x s hs) (hB : B ≤ w.heap.size) (app nx : Int) (qu : List UInt8)
    (ha : AppR B w 71 3 x.aa (x.al + 1) (pcells hs ++ pcell ⟨app, qu, none, 0, 0⟩) g cap w') :
    SHas B w' ⟨x.qa, x.ql, x.qc, some ⟨g, 0, none⟩, x.al + 1, cap, x.ma, x.ml, x.mc, x.ca, x.cl, x.cc⟩ ⟨s.qs, s.clock, s.epoch, nx, s.serial, s.apps ++ [⟨app, qu, []⟩], s.ms, s.cs⟩ (hs ++ [⟨app, qu, none, 0, 0⟩]) := by
  have hS : ∀ k, (∃ N, Cel w 71 k N ∧ B ≤ k) → ∃ N, Cel w 71 k N := fun k hk => let ⟨N, a, _⟩ := hk; ⟨N, a⟩
  have hal : x.al = hs.length := h.p.1.1
  have hrm := (h.rm.mks ha.mks).mono (Nat.le_refl B) ha.mks.size
  have hk := h.k.mkc ha.mks hS
  refine ⟨h.q.mkc ha.mks hS, ⟨?_, ha.own.le ha.cap⟩, ?_, h.m.mkc ha.mks hS, h.c.mkc ha.mks hS, ⟨h.cap.q, ha.cap, h.cap.m, h.cap.c⟩, ⟨hrm.1, ha.own, hrm.2.2.1, hrm.2.2.2.1, fun v hv => ?_⟩⟩
  · rcases ha.own with e | ⟨g', M, e, _, _, hc, hM⟩
    · have := ha.cap; omega
    · cases e
      have hl : (pcells (hs ++ [⟨app, qu, none, 0, 0⟩])).length ≤ M * 3 := by
        rw [pcells_len, List.length_append]
        exact Nat.mul_le_mul_right _ (by have := ha.cap; simp; omega)
      have := (lay_of hc (cs := pcells (hs ++ [⟨app, qu, none, 0, 0⟩])) (by rw [pcells_app]; exact ha.cells) hl).rowP
      rw [List.length_append] at this
      rw [hal]
      exact this
  · exact hk.snoc (Below.refl _ _) (Nat.le_trans hB ha.mks.size) app qu none 0 [] (Nat.le_refl _) ⟨rfl, .inl rfl⟩ (.inl rfl)
  · rcases List.mem_append.1 hv with hv | hv
    · exact hrm.2.2.2.2 v hv
    · obtain rfl := List.mem_singleton.1 hv
      exact .inl rfl
end Go.Proofs.YtgdndekmkaknlaaGreat

/-
  Texts by their bytes are in one order.
-/
namespace Go.Proofs.YtgdndekmkaknlaaGreat
open Go.RowKit
set_option linter.unusedVariables false
theorem bl_irr : ∀ a : List UInt8, Op.bytesLess a a = false
  | [] => rfl
  | c :: t => by simp [Op.bytesLess, bl_irr t]
theorem bl_trans : ∀ a b c : List UInt8, Op.bytesLess a b = true → Op.bytesLess b c = true → Op.bytesLess a c = true
  | _, [], _, h, _ => by simp [Op.bytesLess] at h
  | _, _ :: _, [], _, h => by simp [Op.bytesLess] at h
  | [], _ :: _, _ :: _, _, _ => by simp [Op.bytesLess]
  | x :: a, y :: b, z :: c, h, k => by
    simp only [Op.bytesLess, Bool.or_eq_true, Bool.and_eq_true, decide_eq_true_eq, beq_iff_eq] at h k ⊢
    rcases h with h | ⟨rfl, h⟩
    · rcases k with k | ⟨rfl, k⟩
      · exact .inl (UInt8.lt_trans h k)
      · exact .inl h
    · rcases k with k | ⟨rfl, k⟩
      · exact .inl k
      · exact .inr ⟨rfl, bl_trans a b c h k⟩
theorem bl_tri : ∀ a b : List UInt8, Op.bytesLess a b = false → a ≠ b → Op.bytesLess b a = true
  | [], [], _, h => absurd rfl h
  | [], _ :: _, h, _ => by simp [Op.bytesLess] at h
  | _ :: _, [], _, _ => by simp [Op.bytesLess]
  | x :: a, y :: b, h, k => by
    simp only [Op.bytesLess, Bool.or_eq_false_iff, Bool.and_eq_false_iff, decide_eq_false_iff_not, beq_eq_false_iff_ne] at h
    simp only [Op.bytesLess, Bool.or_eq_true, Bool.and_eq_true, decide_eq_true_eq, beq_iff_eq]
    by_cases hxy : x = y
    · subst hxy
      right
      refine ⟨rfl, bl_tri a b ?_ (fun e => k (by rw [e]))⟩
      rcases h.2 with h2 | h2
      · exact absurd rfl h2
      · exact h2
    · left
      have h1 := h.1
      have : x.toNat ≠ y.toNat := fun e => hxy (UInt8.toNat_inj.1 e)
      rw [UInt8.lt_iff_toNat_lt] at h1 ⊢
      omega
end Go.Proofs.YtgdndekmkaknlaaGreat

/-
  Amounts in the program: numberOk, the methods ok and orNothing, two at once; walks over the dump.
-/
namespace Go.Proofs.YtgdndekmkaknlaaGreat
open Go.RowKit
set_option linter.unusedVariables false
/-- two amounts at once -/
abbrev pv (a b c d : Int) : Value := .agg #[.int .i64 a, .int .i64 b, .int .i64 c, .int .i64 d]

set_option maxHeartbeats 400000 in
theorem numberOk_any (n : Int) (w : World) :
    Calls Tryz.prog 114 #[.int .i64 n] w fun e w' => e = .returned (.bool (inB n 0 1000000000)) ∧ w = w' := by
  by_cases h1 : 0 ≤ n
  · by_cases h2 : n ≤ 1000000000
    · go_enter Tryz.func114, Tryz.ntmps114
      go_wp2
      go_ret
      exact ⟨ret_bool (inB_true h1 h2).symm, rfl⟩
    · go_enter Tryz.func114, Tryz.ntmps114
      go_wp2
      go_ret
      exact ⟨ret_bool (inB_false (by omega)).symm, rfl⟩
  · go_enter Tryz.func114, Tryz.ntmps114
    go_wp2
    go_ret
    exact ⟨ret_bool (inB_false (by omega)).symm, rfl⟩

set_option maxRecDepth 100000 in
set_option maxHeartbeats 400000 in
theorem ok_any (a b : Int) (w : World) :
    Calls Tryz.prog 149 #[rv a b] w fun e w' => e = .returned (.bool (resOk a b)) ∧ w' = w.alloc (.cells #[.int .i64 a, .int .i64 b] 100) := by
  cases h1 : inB a 0 1000000000
  · go_enter Tryz.func149, Tryz.ntmps149
    go_wp2_with (go_at_call 114; refine (numberOk_any _ _).mono ?_; rintro e w' ⟨rfl, rfl⟩)
    go_ret
    exact ⟨ret_bool (by simp [resOk, h1]), rfl⟩
  · go_enter Tryz.func149, Tryz.ntmps149
    go_wp2_with (go_at_call 114; refine (numberOk_any _ _).mono ?_; rintro e w' ⟨rfl, rfl⟩)
    go_ret
    exact ⟨ret_bool (by simp [resOk, h1]), rfl⟩
theorem ok_bel (a b : Int) (w : World) :
    Calls Tryz.prog 149 #[rv a b] w fun e w' => e = .returned (.bool (resOk a b)) ∧ Below w.heap.size w w' :=
  (ok_any a b w).mono fun e w' h => ⟨h.1, by rw [h.2]; exact below_al (Below.refl _ _) _⟩
end Go.Proofs.YtgdndekmkaknlaaGreat

/-
  What the model's l01In answers: whether a number lies between two.
-/
namespace Go.Proofs.YtgdndekmkaknlaaGreat
open Go.RowKit
set_option maxHeartbeats 400000 in
theorem l01In_any (x a b : Int) (w : World) :
    Calls Tryz.prog 38 #[.int .i64 x, .int .i64 a, .int .i64 b] w fun e w' => e = .returned (.bool (inB x a b)) ∧ w = w' := by
  by_cases h1 : a ≤ x
  · by_cases h2 : x ≤ b
    · go_enter Tryz.func38, Tryz.ntmps38
      go_wp2
      go_ret
      exact ⟨ret_bool (inB_true h1 h2).symm, rfl⟩
    · go_enter Tryz.func38, Tryz.ntmps38
      go_wp2
      go_ret
      exact ⟨ret_bool (inB_false (by omega)).symm, rfl⟩
  · go_enter Tryz.func38, Tryz.ntmps38
    go_wp2
    go_ret
    exact ⟨ret_bool (inB_false (by omega)).symm, rfl⟩
end Go.Proofs.YtgdndekmkaknlaaGreat

/-
  What the model's ResOk answers; a walk over the dump.
-/
namespace Go.Proofs.YtgdndekmkaknlaaGreat
open Go.RowKit
set_option linter.unusedVariables false
set_option maxRecDepth 100000 in
set_option maxHeartbeats 400000 in
theorem specResOk_any (a b : Int) (w : World) :
    Calls Tryz.prog 79 #[rv a b] w fun e w' => e = .returned (.bool (resOk a b)) ∧ w' = w.alloc (.cells #[.int .i64 a, .int .i64 b] 100) := by
  cases h1 : inB a 0 1000000000
  · go_enter Tryz.func79, Tryz.ntmps79
    go_wp2_with (go_at_call 38; refine (l01In_any _ _ _ _).mono ?_; rintro e w' ⟨rfl, rfl⟩)
    go_ret
    exact ⟨ret_bool (by simp [resOk, h1]), rfl⟩
  · go_enter Tryz.func79, Tryz.ntmps79
    go_wp2_with (go_at_call 38; refine (l01In_any _ _ _ _).mono ?_; rintro e w' ⟨rfl, rfl⟩)
    go_ret
    exact ⟨ret_bool (by simp [resOk, h1]), rfl⟩
end Go.Proofs.YtgdndekmkaknlaaGreat

/-
  Properties of all bytes of a text.
-/
namespace Go.Proofs.YtgdndekmkaknlaaGreat
open Go.RowKit
theorem all_snoc (s : ByteArray) (k : Nat) (h : k < s.size) (p : UInt8 → Bool) (h1 : (s.data.toList.take k).all p = true) (h2 : p s[k] = true) : (s.data.toList.take (k + 1)).all p = true := by
  rw [take_snoc s k h, List.all_append, h1]; simpa using h2
theorem not_all (s : ByteArray) (k : Nat) (h : k < s.size) (p : UInt8 → Bool) (h2 : p s[k] = false) : s.data.toList.all p = false := by
  rw [List.all_eq_false]
  exact ⟨s[k], by simp [ByteArray.getElem_eq_getElem_data], by simp [h2]⟩
end Go.Proofs.YtgdndekmkaknlaaGreat

/-
  What the model's NameOk answers; a walk over the dump.
-/
namespace Go.Proofs.YtgdndekmkaknlaaGreat
open Go.RowKit
/-- a small letter or a digit -/
def nameB (c : UInt8) : Bool := inB c.toNat 97 122 || inB c.toNat 48 57
def nameOk (l : List UInt8) : Bool := inB l.length 1 10 && l.all nameB


set_option maxHeartbeats 800000 in
theorem specNameOk_any (s : ByteArray) (w : World) (hs : s.size ≤ 1048576) :
    Calls Tryz.prog 74 #[.string s] w fun e w' => e = .returned (.bool (nameOk s.data.toList)) ∧ w' = w := by
  go_enter Tryz.func74, Tryz.ntmps74
  go_wp2
  go_loop [3] (fun i => ∃ k : Nat, k ≤ s.size ∧ i = .int .i64 k ∧ (s.data.toList.take k).all nameB = true) (fun i => s.size - (intOf i).toNat)
  case atStart => exact ⟨0, Nat.zero_le _, rfl, by simp⟩
  case round =>
    obtain ⟨k, hk, rfl, hall⟩ := hrel
    have HA := hide hall
    clear hall
    by_cases hlt : k < s.size
    · have hb : (s[k].toNat : Int) ≤ 255 := byte_le _
      by_cases h1 : 97 ≤ (s[k].toNat : Int) ∧ (s[k].toNat : Int) ≤ 122
      · have e1 : inB (s[k].toNat : Int) 97 122 = true := inB_true h1.1 h1.2
        clear h1
        go_wp2_with (go_at_call 38; refine (l01In_any _ _ _ _).mono ?_; rintro e w' ⟨rfl, rfl⟩)
        go_round
        case rel => exact ⟨k + 1, by omega, by go_num, all_snoc s k hlt _ (unhide HA) (by simp [nameB, e1])⟩
        case measure => simp [intOf]; omega
      · have e1 : inB (s[k].toNat : Int) 97 122 = false := inB_false h1
        clear h1
        by_cases h2 : 48 ≤ (s[k].toNat : Int) ∧ (s[k].toNat : Int) ≤ 57
        · have e2 : inB (s[k].toNat : Int) 48 57 = true := inB_true h2.1 h2.2
          clear h2
          go_wp2_with (go_at_call 38; refine (l01In_any _ _ _ _).mono ?_; rintro e w' ⟨rfl, rfl⟩)
          go_round
          case rel => exact ⟨k + 1, by omega, by go_num, all_snoc s k hlt _ (unhide HA) (by simp [nameB, e1, e2])⟩
          case measure => simp [intOf]; omega
        · have e2 : inB (s[k].toNat : Int) 48 57 = false := inB_false h2
          clear h2
          have hf : Hid (nameOk s.data.toList = false) := hide (by rw [nameOk, not_all s k hlt nameB (by simp [nameB, e1, e2])]; simp)
          go_wp2_with (go_at_call 38; refine (l01In_any _ _ _ _).mono ?_; rintro e w' ⟨rfl, rfl⟩)
          go_ret
          exact ⟨ret_bool (unhide hf).symm, rfl⟩
    · have hf : Hid (nameOk s.data.toList = inB (s.size : Int) 1 10) := hide (by rw [nameOk, ← take_all s k (by omega), unhide HA, take_all s k (by omega), len_eq]; simp)
      go_wp2_with (go_at_call 38; refine (l01In_any _ _ _ _).mono ?_; rintro e w' ⟨rfl, rfl⟩)
      go_ret
      exact ⟨ret_bool (unhide hf).symm, rfl⟩
end Go.Proofs.YtgdndekmkaknlaaGreat

/-
  What the program's isDigit answers; a walk over the dump.
-/
namespace Go.Proofs.YtgdndekmkaknlaaGreat
open Go.RowKit
set_option maxHeartbeats 400000 in
theorem isDigit_any (x : Int) (w : World) :
    Calls Tryz.prog 141 #[.int .u8 x] w fun e w' => e = .returned (.bool (inB x 48 57)) ∧ w' = w := by
  by_cases h1 : 48 ≤ x
  · by_cases h2 : x ≤ 57
    · go_enter Tryz.func141, Tryz.ntmps141
      go_wp2
      go_ret
      exact ⟨ret_bool (inB_true h1 h2).symm, rfl⟩
    · go_enter Tryz.func141, Tryz.ntmps141
      go_wp2
      go_ret
      exact ⟨ret_bool (inB_false (by omega)).symm, rfl⟩
  · go_enter Tryz.func141, Tryz.ntmps141
    go_wp2
    go_ret
    exact ⟨ret_bool (inB_false (by omega)).symm, rfl⟩
end Go.Proofs.YtgdndekmkaknlaaGreat

/-
  What the program's NameOk answers: as the model's; a walk over the dump.
-/
namespace Go.Proofs.YtgdndekmkaknlaaGreat
open Go.RowKit
set_option maxHeartbeats 800000 in
theorem implNameOk_any (s : ByteArray) (w : World) (hs : s.size ≤ 1048576) :
    Calls Tryz.prog 117 #[.string s] w fun e w' => e = .returned (.bool (nameOk s.data.toList)) ∧ w' = w := by
  by_cases h0 : 1 ≤ s.size
  · by_cases h1 : s.size ≤ 10
    · have hin : Hid (inB (s.data.toList.length : Int) 1 10 = true) := hide (by rw [len_eq]; exact inB_true (by omega) (by omega))
      go_enter Tryz.func117, Tryz.ntmps117
      go_wp2
      go_loop [14] (fun i => ∃ k : Nat, k ≤ s.size ∧ i = .int .i64 k ∧ (s.data.toList.take k).all nameB = true) (fun i => s.size - (intOf i).toNat)
      case atStart => exact ⟨0, Nat.zero_le _, rfl, by simp⟩
      case round =>
        obtain ⟨k, hk, rfl, hall⟩ := hrel
        have HA := hide hall
        clear hall
        by_cases hlt : k < s.size
        · have hb : (s[k].toNat : Int) ≤ 255 := byte_le _
          by_cases h3 : 48 ≤ (s[k].toNat : Int) ∧ (s[k].toNat : Int) ≤ 57
          · have e1 : inB (s[k].toNat : Int) 48 57 = true := inB_true h3.1 h3.2
            clear h3
            go_wp2_with (go_at_call 141; refine (isDigit_any _ _).mono ?_; rintro e w' ⟨rfl, rfl⟩)
            go_round
            case rel => exact ⟨k + 1, by omega, by go_num, all_snoc s k hlt _ (unhide HA) (by simp [nameB, e1])⟩
            case measure => simp [intOf]; omega
          · have e1 : inB (s[k].toNat : Int) 48 57 = false := inB_false h3
            clear h3
            by_cases h4 : 97 ≤ (s[k].toNat : Int)
            · by_cases h5 : (s[k].toNat : Int) ≤ 122
              · have HN : Hid (nameB s[k] = true) := hide (by simp [nameB, e1, inB_true h4 h5])
                go_wp2_with (go_at_call 141; refine (isDigit_any _ _).mono ?_; rintro e w' ⟨rfl, rfl⟩)
                go_round
                case rel => exact ⟨k + 1, by omega, by go_num, all_snoc s k hlt _ (unhide HA) (unhide HN)⟩
                case measure => simp [intOf]; omega
              · have hf : Hid (nameOk s.data.toList = false) := hide (by rw [nameOk, not_all s k hlt nameB (by simp [nameB, e1, inB_false (x := (s[k].toNat : Int)) (a := 97) (b := 122) (by omega)])]; simp)
                go_wp2_with (go_at_call 141; refine (isDigit_any _ _).mono ?_; rintro e w' ⟨rfl, rfl⟩)
                go_ret
                exact ⟨ret_bool (unhide hf).symm, rfl⟩
            · have hf : Hid (nameOk s.data.toList = false) := hide (by rw [nameOk, not_all s k hlt nameB (by simp [nameB, e1, inB_false (x := (s[k].toNat : Int)) (a := 97) (b := 122) (by omega)])]; simp)
              go_wp2_with (go_at_call 141; refine (isDigit_any _ _).mono ?_; rintro e w' ⟨rfl, rfl⟩)
              go_ret
              exact ⟨ret_bool (unhide hf).symm, rfl⟩
        · have hf : Hid (nameOk s.data.toList = true) := hide (by rw [nameOk, unhide hin, ← take_all s k (by omega), unhide HA]; rfl)
          go_wp2
          go_ret
          exact ⟨ret_bool (unhide hf).symm, rfl⟩
    · have hf : Hid (nameOk s.data.toList = false) := hide (by rw [nameOk, len_eq, inB_false (by omega)]; simp)
      go_enter Tryz.func117, Tryz.ntmps117
      go_wp2
      go_ret
      exact ⟨ret_bool (unhide hf).symm, rfl⟩
  · have hf : Hid (nameOk s.data.toList = false) := hide (by rw [nameOk, len_eq, inB_false (by omega)]; simp)
    go_enter Tryz.func117, Tryz.ntmps117
    go_wp2
    go_ret
    exact ⟨ret_bool (unhide hf).symm, rfl⟩
end Go.Proofs.YtgdndekmkaknlaaGreat

/-
  Where a queue stands: what the model's l03Place answers; a walk over the dump.
-/
namespace Go.Proofs.YtgdndekmkaknlaaGreat
open Go.RowKit
set_option linter.unusedVariables false
set_option maxRecDepth 100000 in
set_option maxHeartbeats 1000000 in
theorem l03Place_any (ao : Option Addr) (len cap : Nat) (l : List Q) (nm : List UInt8) (w : World) (h : QRow w ao len l) (hl : len ≤ 1048576) :
    Calls Tryz.prog 59 #[.slice ao len cap, .string (bs nm)] w fun e w' => e = .returned (.int .i64 (place l nm)) ∧ w = w' := by
  have HR := hide h
  have HL := hide h.1
  clear h
  go_enter Tryz.func59, Tryz.ntmps59
  go_wp2
  go_loopw [5] (fun i wr => ∃ k : Nat, k ≤ len ∧ i = .int .i64 k ∧ Hid (place l nm = placeFrom nm (l.drop k) k) ∧ wr = w) (fun i _ => len - (intOf i).toNat)
  case atStart => exact ⟨0, Nat.zero_le _, rfl, hide (by simp [place]), rfl⟩
  case round =>
    obtain ⟨k, hk, rfl, hp, rfl⟩ := hrel
    by_cases hlt : k < len
    · obtain ⟨b, off, rfl, hq⟩ := (unhide HR).at hlt
      have hkl : k < l.length := by have := unhide HL; omega
      have hst := hide (placeFrom_step (nm := nm) (l := l) (k := k) hkl)
      have hq0 := (hq hkl).1
      clear hq
      obtain ⟨s, hs⟩ : ∃ s, l[k].name = s := ⟨_, rfl⟩
      rw [hs] at hq0 hst
      have hbe := bs_eq s nm
      clear hs hkl
      by_cases he : s = nm
      · have HE := hide he
        rw [decide_eq_true he] at hbe
        clear he
        go_wp2
        go_ret
        exact ⟨ret_int (by rw [unhide hp, unhide hst, if_pos (unhide HE)]), rfl⟩
      · have HE := hide he
        rw [decide_eq_false he] at hbe
        clear he
        go_wp2
        go_roundw
        case rel => exact ⟨k + 1, by omega, by go_num, hide (by rw [unhide hp, unhide hst, if_neg (unhide HE)]), trivial⟩
        case measure => simp [intOf]; omega
    · go_wp2
      go_ret
      exact ⟨ret_int (by rw [unhide hp, placeFrom_end (by have := unhide HL; omega)]), rfl⟩
end Go.Proofs.YtgdndekmkaknlaaGreat

/-
  What is due to the kids of a queue together: what the model's l03Sum answers; a walk over the dump.
-/
namespace Go.Proofs.YtgdndekmkaknlaaGreat
open Go.RowKit
set_option linter.unusedVariables false
/-- what is due together of those of that parent -/
def dueSum (nm : List UInt8) : List Q → Int
  | [] => 0
  | q :: t => (if q.parent = nm then q.due else 0) + dueSum nm t
/-- of the kids of a queue: the first one is nobody's kid -/
def kidsSum (l : List Q) (nm : List UInt8) : Int := dueSum nm (l.drop 1)
theorem dueSum_step {nm : List UInt8} {l : List Q} {k : Nat} (h : k < l.length) : dueSum nm (l.drop k) = (if l[k].parent = nm then l[k].due else 0) + dueSum nm (l.drop (k + 1)) := by
  rw [List.drop_eq_getElem_cons h, dueSum]
theorem dueSum_end {nm : List UInt8} {l : List Q} {k : Nat} (h : l.length ≤ k) : dueSum nm (l.drop k) = 0 := by
  rw [List.drop_of_length_le h]; rfl

set_option maxRecDepth 100000 in
set_option maxHeartbeats 1000000 in
theorem l03Sum_any (ao : Option Addr) (len cap : Nat) (l : List Q) (nm : List UInt8) (w : World) (h : QRow w ao len l) (hl : len ≤ 1048576) (hd : ∀ q ∈ l, 0 ≤ q.due ∧ q.due ≤ 10000) :
    Calls Tryz.prog 75 #[.slice ao len cap, .string (bs nm)] w fun e w' => e = .returned (.int .i64 (kidsSum l nm)) ∧ w = w' := by
  have HR := hide h
  have HL := hide h.1
  have HD := hide hd
  clear h hd
  go_enter Tryz.func75, Tryz.ntmps75
  go_wp2
  go_loopw [5, 6] (fun s i wr => ∃ (k : Nat) (a : Int), 1 ≤ k ∧ k ≤ len + 1 ∧ i = .int .i64 k ∧ s = .int .i64 a ∧ 0 ≤ a ∧ a ≤ 10000 * k ∧ Hid (kidsSum l nm = a + dueSum nm (l.drop k)) ∧ wr = w) (fun _ i _ => len + 1 - (intOf i).toNat)
  case atStart => exact ⟨1, 0, by omega, by omega, rfl, rfl, by omega, by omega, hide (by simp [kidsSum]), rfl⟩
  case round =>
    obtain ⟨k, a, hk1, hk, rfl, rfl, ha0, ha1, hp, rfl⟩ := hrel
    by_cases hlt : k < len
    · obtain ⟨b, off, rfl, hq⟩ := (unhide HR).at hlt
      have hkl : k < l.length := by have := unhide HL; omega
      have hst := hide (dueSum_step (nm := nm) (l := l) (k := k) hkl)
      have hq1 := (hq hkl).2.1
      have hq2 := (hq hkl).2.2.1
      obtain ⟨d0, d1⟩ := unhide HD l[k] (List.getElem_mem _)
      clear hq
      obtain ⟨s, hs⟩ : ∃ s, l[k].parent = s := ⟨_, rfl⟩
      obtain ⟨d, hdd⟩ : ∃ d, l[k].due = d := ⟨_, rfl⟩
      rw [hs] at hq1 hst
      rw [hdd] at hq2 hst d0 d1
      have hbe := bs_eq s nm
      clear hs hdd hkl
      by_cases he : s = nm
      · have HE := hide he
        rw [decide_eq_true he] at hbe
        clear he
        go_wp2
        go_roundw
        case rel => exact ⟨k + 1, a + d, by omega, by omega, by go_num, by go_num, by omega, by omega, hide (by rw [unhide hp, unhide hst, if_pos (unhide HE)]; omega), trivial⟩
        case measure => simp [intOf]; omega
      · have HE := hide he
        rw [decide_eq_false he] at hbe
        clear he
        go_wp2
        go_roundw
        case rel => exact ⟨k + 1, a, by omega, by omega, by go_num, rfl, by omega, by omega, hide (by rw [unhide hp, unhide hst, if_neg (unhide HE)]; omega), trivial⟩
        case measure => simp [intOf]; omega
    · go_wp2
      go_ret
      exact ⟨ret_int (by rw [unhide hp, dueSum_end (by have := unhide HL; omega)]; omega), rfl⟩
end Go.Proofs.YtgdndekmkaknlaaGreat

/-
  A tree of queues: what is asked of it, in plain words.
-/
namespace Go.Proofs.YtgdndekmkaknlaaGreat
open Go.RowKit
set_option linter.unusedVariables false
/-- a queue at place k of l is as it must be -/
def qOk (l : List Q) (k : Nat) (q : Q) : Bool :=
  nameOk q.name && decide (place l q.name = k) && inB q.most 0 10000 && inB q.due 0 q.most
    && (if k = 0 then decide (q.parent = []) && decide (q.due = 10000) else inB (place l q.parent) 0 ((k : Int) - 1))
def okFrom (l : List Q) : List Q → Nat → Bool
  | [], _ => true
  | q :: t, k => qOk l k q && okFrom l t (k + 1)
def sumsOk (l : List Q) : List Q → Bool
  | [] => true
  | q :: t => decide (kidsSum l q.name ≤ 10000) && sumsOk l t
def queuesOk (l : List Q) : Bool := okFrom l l 0 && sumsOk l l && inB l.length 1 20
theorem okFrom_step {l : List Q} {k : Nat} (h : k < l.length) : okFrom l (l.drop k) k = (qOk l k l[k] && okFrom l (l.drop (k + 1)) (k + 1)) := by
  rw [List.drop_eq_getElem_cons h, okFrom]
theorem okFrom_end {l : List Q} {k : Nat} (h : l.length ≤ k) : okFrom l (l.drop k) k = true := by
  rw [List.drop_of_length_le h]; rfl
theorem sumsOk_step {l : List Q} {k : Nat} (h : k < l.length) : sumsOk l (l.drop k) = (decide (kidsSum l l[k].name ≤ 10000) && sumsOk l (l.drop (k + 1))) := by
  rw [List.drop_eq_getElem_cons h, sumsOk]
theorem sumsOk_end {l : List Q} {k : Nat} (h : l.length ≤ k) : sumsOk l (l.drop k) = true := by
  rw [List.drop_of_length_le h]; rfl
theorem okFrom_due {l : List Q} : ∀ (m : List Q) (k : Nat), okFrom l m k = true → ∀ q ∈ m, 0 ≤ q.due ∧ q.due ≤ 10000
  | [], _, _, q, h => by simp at h
  | x :: t, k, h, q, hq => by
    rw [okFrom, Bool.and_eq_true] at h
    rcases List.mem_cons.1 hq with rfl | hq
    · have := h.1
      simp only [qOk, inB, Bool.and_eq_true, decide_eq_true_eq] at this
      omega
    · exact okFrom_due t (k + 1) h.2 q hq
theorem ok_no1 {l : List Q} (h : okFrom l l 0 = false) : queuesOk l = false := by simp [queuesOk, h]
theorem ok_no2 {l : List Q} (h : sumsOk l l = false) : queuesOk l = false := by simp [queuesOk, h]
theorem ok_yes {l : List Q} (h1 : okFrom l l 0 = true) (h2 : sumsOk l l = true) : queuesOk l = inB l.length 1 20 := by simp [queuesOk, h1, h2]
end Go.Proofs.YtgdndekmkaknlaaGreat
