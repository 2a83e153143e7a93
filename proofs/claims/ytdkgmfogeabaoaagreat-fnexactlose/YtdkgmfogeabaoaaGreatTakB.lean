/-
  Containers, an application, a machine taken out of a state that is the caller's own: what the program's takeConts, drop and lose leave; walks over the dump.
-/
import Derived.Test.YtdkgmfogeabaoaaGreatTkaC
import Derived.Test.YtdkgmfogeabaoaaGreatTkaM
import Derived.Test.YtdkgmfogeabaoaaGreatTkaP
import Derived.Test.YtdkgmfogeabaoaaGreatCopySt
import Derived.Test.YtdkgmfogeabaoaaGreatPlaceM
namespace Go.Proofs.YtdkgmfogeabaoaaGreat
open Go.RowKit
set_option linter.unusedVariables false

theorem own_mkt {B b N : Nat} {w w' : World} {t t' : TypeId} {sz n : Nat} {ao : Option Addr} (h : Own1 B w.heap.size w t sz ao n) (hm : Mks (fun k => k = b) w w') (hc : Cel w t' b N) (ht : t' ≠ t) : (∀ k, inR ao n k → ¬ (k = b)) ∧ Own1 B w'.heap.size w' t sz ao n := by
  refine ⟨fun k hk e => ?_, (h.mks hm).mono (Nat.le_refl _) hm.size⟩
  obtain ⟨_, _, N', h2⟩ := h.lies k hk
  subst e
  exact ht (hc.type h2)
theorem QHas.mkt {B b n : Nat} {w w' : World} {ao : Option Addr} {l : List Q} {arr : Array Value} (h : QHas B w ao n l) (hm : Mks (fun k => k = b) w w') (hc : Blk w b arr 35) : QHas B w' ao n l :=
  ⟨h.1.mks hm (own_mkt h.2 hm ⟨_, hc, rfl⟩ (by decide)).1, (own_mkt h.2 hm ⟨_, hc, rfl⟩ (by decide)).2⟩
theorem MHas.mkt {B b n : Nat} {w w' : World} {ao : Option Addr} {l : List Mac} {arr : Array Value} (h : MHas B w ao n l) (hm : Mks (fun k => k = b) w w') (hc : Blk w b arr 35) : MHas B w' ao n l :=
  ⟨h.1.mks hm (own_mkt h.2 hm ⟨_, hc, rfl⟩ (by decide)).1, (own_mkt h.2 hm ⟨_, hc, rfl⟩ (by decide)).2⟩
theorem CHas.mkt {B b n : Nat} {w w' : World} {ao : Option Addr} {l : List Con} {arr : Array Value} (h : CHas B w ao n l) (hm : Mks (fun k => k = b) w w') (hc : Blk w b arr 35) : CHas B w' ao n l :=
  ⟨h.1.mks hm (own_mkt h.2 hm ⟨_, hc, rfl⟩ (by decide)).1, (own_mkt h.2 hm ⟨_, hc, rfl⟩ (by decide)).2⟩
theorem PHas.mkt {B b n : Nat} {w w' : World} {ao : Option Addr} {l : List AV} {arr : Array Value} (h : PHas B w ao n l) (hm : Mks (fun k => k = b) w w') (hc : Blk w b arr 35) : PHas B w' ao n l :=
  ⟨h.1.mks hm (own_mkt h.2 hm ⟨_, hc, rfl⟩ (by decide)).1, (own_mkt h.2 hm ⟨_, hc, rfl⟩ (by decide)).2⟩
theorem KHas.mkt {B b : Nat} {w w' : World} {hs : List AV} {l : List Appl} {arr : Array Value} (h : KHas B w hs l) (hm : Mks (fun k => k = b) w w') (hc : Blk w b arr 35) : KHas B w' hs l :=
  ⟨⟨h.heads.1, fun i h1 h2 => let ⟨a, b', c, d⟩ := h.heads.2 i h1 h2; ⟨a, b', c.mks hm (own_mkt (h.own _ (List.getElem_mem h1)) hm ⟨_, hc, rfl⟩ (by decide)).1, d⟩⟩, fun v hv => (own_mkt (h.own v hv) hm ⟨_, hc, rfl⟩ (by decide)).2, h.apart⟩
theorem QHas.base {B B' n : Nat} {w : World} {ao : Option Addr} {l : List Q} (h : QHas B w ao n l) (hb : B' ≤ B) : QHas B' w ao n l := ⟨h.1, h.2.mono hb (Nat.le_refl _)⟩
theorem MHas.base {B B' n : Nat} {w : World} {ao : Option Addr} {l : List Mac} (h : MHas B w ao n l) (hb : B' ≤ B) : MHas B' w ao n l := ⟨h.1, h.2.mono hb (Nat.le_refl _)⟩
theorem CHas.base {B B' n : Nat} {w : World} {ao : Option Addr} {l : List Con} (h : CHas B w ao n l) (hb : B' ≤ B) : CHas B' w ao n l := ⟨h.1, h.2.mono hb (Nat.le_refl _)⟩
theorem PHas.base {B B' n : Nat} {w : World} {ao : Option Addr} {l : List AV} (h : PHas B w ao n l) (hb : B' ≤ B) : PHas B' w ao n l := ⟨h.1, h.2.mono hb (Nat.le_refl _)⟩
theorem KHas.base {B B' : Nat} {w : World} {hs : List AV} {l : List Appl} (h : KHas B w hs l) (hb : B' ≤ B) : KHas B' w hs l := ⟨h.heads, fun v hv => (h.own v hv).mono hb (Nat.le_refl _), h.apart⟩

/-- what is left of the heads and of the applications -/
theorem heads_nil (w : World) : Heads w [] [] := ⟨rfl, fun i h => absurd h (by simp)⟩
theorem heads_cons {w : World} {v : AV} {t : List AV} {a : Appl} {s : List Appl} (h : Heads w (v :: t) (a :: s)) : (v.id = a.id ∧ v.queue = a.queue ∧ AskRow w v.ao v.len a.asks ∧ v.len ≤ v.cap) ∧ Heads w t s :=
  ⟨h.2 0 (by simp) (by simp), by simpa using h.1, fun i h1 h2 => by have := h.2 (i + 1) (by simpa using h1) (by simpa using h2); simpa using this⟩
theorem heads_put {w : World} {v : AV} {t : List AV} {a : Appl} {s : List Appl} (h : v.id = a.id ∧ v.queue = a.queue ∧ AskRow w v.ao v.len a.asks ∧ v.len ≤ v.cap) (h' : Heads w t s) : Heads w (v :: t) (a :: s) :=
  ⟨by simp [h'.1], fun i h1 h2 => by
    cases i with
    | zero => exact h
    | succ i => exact h'.2 i (by simpa using h1) (by simpa using h2)⟩
theorem heads_filter {w : World} (f : Int → Bool) : ∀ (hs : List AV) (l : List Appl), Heads w hs l → Heads w (hs.filter (fun v => f v.id)) (l.filter (fun a => f a.id))
  | [], [], _ => heads_nil w
  | [], a :: s, h => absurd h.1 (by simp)
  | v :: t, [], h => absurd h.1 (by simp)
  | v :: t, a :: s, h => by
    obtain ⟨h1, h2⟩ := heads_cons h
    have ih := heads_filter f t s h2
    cases hf : f a.id with
    | true => rw [List.filter_cons_of_pos (by simpa [h1.1] using hf), List.filter_cons_of_pos (by simpa using hf)]; exact heads_put h1 ih
    | false => rw [List.filter_cons_of_neg (by simp [h1.1, hf]), List.filter_cons_of_neg (by simp [hf])]; exact ih
theorem KHas.filter {B : Nat} {w : World} {hs : List AV} {l : List Appl} (h : KHas B w hs l) (f : Int → Bool) : KHas B w (hs.filter (fun v => f v.id)) (l.filter (fun a => f a.id)) :=
  ⟨heads_filter f hs l h.heads, fun v hv => h.own v (List.mem_filter.1 hv).1, h.apart.filter _⟩

theorem TakC.stays {w : World} {g N : Nat} {l gl : List Con} (h : TakC w g (N * 5) l gl) (hl : l.length ≤ N) : CHas g w (some ⟨g, 0, none⟩) l.length l := by
  obtain ⟨v, _, hly, _⟩ := h
  exact ⟨hly.rowC, .inr ⟨g, N, rfl, Nat.le_refl _, hly.lt, hly.cel, hl⟩⟩
theorem TakM.stays {w : World} {g N : Nat} {l gl : List Mac} (h : TakM w g (N * 4) l gl) (hl : l.length ≤ N) : MHas g w (some ⟨g, 0, none⟩) l.length l := by
  obtain ⟨v, _, hly, _⟩ := h
  exact ⟨hly.rowM, .inr ⟨g, N, rfl, Nat.le_refl _, hly.lt, hly.cel, hl⟩⟩
theorem TakP.stays {w : World} {g N : Nat} {l gl : List AV} (h : TakP w g (N * 3) l gl) (hl : l.length ≤ N) : PHas g w (some ⟨g, 0, none⟩) l.length l := by
  obtain ⟨v, _, hly, _⟩ := h
  exact ⟨hly.rowP, .inr ⟨g, N, rfl, Nat.le_refl _, hly.lt, hly.cel, hl⟩⟩

/-- what takeConts leaves: the box of the state bears the containers that stay; those that are gone are handed back -/
def TkAns (w : World) (b : Nat) (x : Sls) (s : St) (p : Con → Bool) (e : Ending) (w' : World) : Prop :=
  ∃ go gn gc, e = .returned (.slice go gn gc) ∧ Blk w' b (svc ⟨x.qa, x.ql, x.qc, x.aa, x.al, x.ac, x.ma, x.ml, x.mc, some ⟨w.heap.size, 0, none⟩, (s.cs.filter (fun q => !p q)).length, (s.cs.filter (fun q => !p q)).length⟩ s) 35
    ∧ CHas w.heap.size w' (some ⟨w.heap.size, 0, none⟩) (s.cs.filter (fun q => !p q)).length (s.cs.filter (fun q => !p q)) ∧ CHas (w.heap.size + 2) w' go gn (s.cs.filter p) ∧ Mks (fun k => k = b) w w'

theorem mks_of {b N : Nat} {w w' : World} {t : TypeId} {arr : Array Value} (hb : Below w.heap.size w w') (hk : Blk w b arr t) (v : Value) (j : Nat) : Mks (fun k => k = b) w (w'.setCell ⟨b, j, none⟩ v) := (Mks.of_below hb).sc b j v rfl

set_option maxRecDepth 100000 in
set_option maxHeartbeats 2000000 in
theorem takeConts_any (gf : Nat) (lb : Array Value) (eg : ∀ args w, (callFunc gf args).run Tryz.prog w = .ok (.enter gf args) w) (p : Con → Bool) (b : Nat) (x : Sls) (s : St) (w : World) (hk : Blk w b (svc x s) 35) (h : ConRow w x.ca x.cl s.cs) (hl : x.cl ≤ 1048576)
    (hp : ∀ wx q, q ∈ s.cs → Below w.heap.size w wx → Calls Tryz.prog gf (#[conv q] ++ lb) wx fun e w' => e = .returned (.bool (p q)) ∧ Below wx.heap.size wx w') :
    Calls Tryz.prog 36 #[.pointer (some ⟨b, 0, none⟩), .func (.func gf) #[] lb] w (TkAns w b x s p) := by
  obtain ⟨qa, ql, qc, aa, al, ac, ma, ml, mc, ca, cl, cc⟩ := x
  obtain ⟨qs, clock, epoch, next, serial, apps, ms, cs⟩ := s
  simp only at *
  have CT := hide (takingFromC_any ca cl cc cs w h hl)
  have HLN := hide h.1
  have HK := hide hk
  have HP := hide hp
  have d7 := hk.at 7
  have hbs := hk.lt
  simp at d7
  clear h hk hp
  go_enter Tryz.func36, Tryz.ntmps36
  go_wp2_with fail
  refine (unhide CT).mono ?_
  rintro e w1 ⟨rfl, ht, hs1, hb⟩
  have CA := hide (takeAllC_any gf lb eg p w.heap.size (cl * 5) cs [] w1 ht (by have := unhide HLN; simp; omega) (fun wx q hq hbx => unhide HP wx q hq (hb.trans hbx)))
  have HB1 := hide hb
  clear ht hb CT hs1
  go_wp2_with fail
  refine (unhide CA).mono ?_
  rintro e w2 ⟨rfl, ht, hb⟩
  have HB2 := hide ((unhide HB1).trans hb)
  have HST := hide (ht.stays (by have := unhide HLN; have := List.length_filter_le (fun q => !p q) cs; omega))
  obtain ⟨v, hbk, hly, how⟩ := ht
  obtain ⟨go, gc, rfl, hgc, hgo⟩ := cown_has how
  rw [List.nil_append] at hgo hbk
  have HGO := hide hgo
  have k0 := hbk.at 0
  have k1 := hbk.at 1
  obtain ⟨n1, hn1⟩ : ∃ n, (cs.filter (fun q => !p q)).length = n := ⟨_, rfl⟩
  obtain ⟨n2, hn2⟩ : ∃ n, (cs.filter p).length = n := ⟨_, rfl⟩
  rw [hn1] at k0 k1
  rw [hn2] at k0 k1
  simp at k0 k1
  have K2 := hide (show Blk w2 b _ 35 from ((unhide HB2).block b hbs).trans (unhide HK))
  have e7 := (unhide K2).at 7
  have f7 := (unhide K2).f 7
  simp at e7
  have hz2 : w.heap.size + 1 < w2.heap.size := hbk.lt
  have HN1 := hide hn1
  have HN2 := hide hn2
  have hne : ¬ (b = w.heap.size + 1) := by omega
  have hne2 : ¬ (w.heap.size + 1 = b) := by omega
  clear hbk hly how hb HB1 CA d7 hgo hgc hn1 hn2
  go_wp2
  go_ret
  refine ⟨go, n2, gc, rfl, ?_, ?_, ?_, ?_⟩
  · show Blk _ b #[.slice qa ql qc, .int .i64 clock, .int .i64 epoch, .int .i64 next, .int .i64 serial, .slice aa al ac, .slice ma ml mc, .slice _ (cs.filter (fun q => !p q)).length (cs.filter (fun q => !p q)).length] _
    rw [unhide HN1]
    exact (unhide K2).set 7 _
  · have hm : Mks (fun k => k = b) w2 (w2.setCell ⟨b, 7, none⟩ (.slice (some ⟨w.heap.size, 0, none⟩) n1 n1)) := Mks.one _ _ _ _ _ rfl
    exact (unhide HST).mkt hm (unhide K2)
  · have hm : Mks (fun k => k = b) w2 (w2.setCell ⟨b, 7, none⟩ (.slice (some ⟨w.heap.size, 0, none⟩) n1 n1)) := Mks.one _ _ _ _ _ rfl
    have := (unhide HGO).mkt hm (unhide K2)
    rw [unhide HN2] at this
    exact this
  · exact mks_of (N := 0) (unhide HB2) (unhide HK) _ 7

/-- a state that owns its lists, from B on -/
structure SHas (B : Nat) (w : World) (x : Sls) (s : St) (hs : List AV) : Prop where
  q : QHas B w x.qa x.ql s.qs
  p : PHas B w x.aa x.al hs
  k : KHas B w hs s.apps
  m : MHas B w x.ma x.ml s.ms
  c : CHas B w x.ca x.cl s.cs
  cap : SCap x
theorem SHas.below {B : Nat} {w w' : World} {x : Sls} {s : St} {hs : List AV} (h : SHas B w x s hs) (hb : Below w.heap.size w w') : SHas B w' x s hs := ⟨h.q.below hb, h.p.below hb, h.k.below hb, h.m.below hb, h.c.below hb, h.cap⟩
theorem SHas.mkt {B b : Nat} {w w' : World} {x : Sls} {s : St} {hs : List AV} {arr : Array Value} (h : SHas B w x s hs) (hm : Mks (fun k => k = b) w w') (hc : Blk w b arr 35) : SHas B w' x s hs := ⟨h.q.mkt hm hc, h.p.mkt hm hc, h.k.mkt hm hc, h.m.mkt hm hc, h.c.mkt hm hc, h.cap⟩
theorem SHas.base {B B' : Nat} {w : World} {x : Sls} {s : St} {hs : List AV} (h : SHas B w x s hs) (hb : B' ≤ B) : SHas B' w x s hs := ⟨h.q.base hb, h.p.base hb, h.k.base hb, h.m.base hb, h.c.base hb, h.cap⟩
theorem SHas.ans {B : Nat} {w : World} {x : Sls} {s : St} {hs : List AV} (h : SHas B w x s hs) : SAns B w.heap.size w x s hs := sans_of h.q h.p h.k h.m h.c h.cap
theorem SAns.has {B E : Nat} {w : World} {x : Sls} {s : St} {hs : List AV} (h : SAns B E w x s hs) (hE : E ≤ w.heap.size) : SHas B w x s hs :=
  ⟨⟨h.row.1, h.q.mono (Nat.le_refl _) hE⟩, ⟨h.av, h.a.mono (Nat.le_refl _) hE⟩, ⟨h.heads, fun v hv => (h.asks v hv).mono (Nat.le_refl _) hE, h.apart⟩, ⟨h.row.2.2.1, h.m.mono (Nat.le_refl _) hE⟩, ⟨h.row.2.2.2, h.c.mono (Nat.le_refl _) hE⟩, h.cap⟩
/-- behind a call that takes out of the state in box b: the state that is left, and what is gone -/
def TkSt (B : Nat) (w : World) (b : Nat) (s : St) (hs : List AV) (gone : List Con) (e : Ending) (w' : World) : Prop :=
  ∃ y go gn gc, e = .returned (.slice go gn gc) ∧ Blk w' b (svc y s) 35 ∧ SHas B w' y s hs ∧ CHas w.heap.size w' go gn gone ∧ (∀ k, inR go gn k → ¬ inR y.ca y.cl k) ∧ Mks (fun k => k = b) w w'
theorem takeConts_st {B : Nat} (gf : Nat) (lb : Array Value) (eg : ∀ args w, (callFunc gf args).run Tryz.prog w = .ok (.enter gf args) w) (p : Con → Bool) (b : Nat) (x : Sls) (s : St) (hs : List AV) (w : World) (hk : Blk w b (svc x s) 35) (h : SHas B w x s hs) (hB : B ≤ w.heap.size) (hl : x.cl ≤ 1048576)
    (hp : ∀ wx q, q ∈ s.cs → Below w.heap.size w wx → Calls Tryz.prog gf (#[conv q] ++ lb) wx fun e w' => e = .returned (.bool (p q)) ∧ Below wx.heap.size wx w') :
    Calls Tryz.prog 36 #[.pointer (some ⟨b, 0, none⟩), .func (.func gf) #[] lb] w (TkSt B w b ⟨s.qs, s.clock, s.epoch, s.next, s.serial, s.apps, s.ms, s.cs.filter (fun q => !p q)⟩ hs (s.cs.filter p)) := by
  refine (takeConts_any gf lb eg p b x s w hk h.c.1 hl hp).mono ?_
  rintro e w' ⟨go, gn, gc, rfl, h1, h2, h3, hm⟩
  refine ⟨_, go, gn, gc, rfl, h1, ⟨h.q.mkt hm hk, h.p.mkt hm hk, h.k.mkt hm hk, h.m.mkt hm hk, h2.base hB, ⟨h.cap.q, h.cap.a, h.cap.m, Nat.le_refl _⟩⟩, h3.base (by omega), fun k hk1 hk2 => ?_, hm⟩
  obtain ⟨a1, _⟩ := h3.2.lies k hk1
  obtain ⟨_, o, e⟩ := hk2
  cases e
  omega

theorem cell_of_below {w wx : World} {k j : Nat} {v : Value} (h : w.cell? ⟨k, j, none⟩ = some v) (hb : Below w.heap.size w wx) : wx.cell? ⟨k, j, none⟩ = some v := cellBel h hb

set_option maxRecDepth 100000 in
set_option maxHeartbeats 1000000 in
theorem dropP_clo (k : Nat) (app : Int) (v : AV) (w : World) (h : w.cell? ⟨k, 0, none⟩ = some (.int .i64 app)) :
    Calls Tryz.prog 90 #[avv v, .pointer (some ⟨k, 0, none⟩)] w fun e w' => e = .returned (.bool (decide (v.id = app))) ∧ Below w.heap.size w w' := by
  obtain ⟨vi, vq, va, vl, vc⟩ := v
  have hks := cell_lt h
  have HB := hide (below_al (Below.refl _ w) (.cells #[.int .i64 vi, .string (bs vq), .slice va vl vc] 95))
  go_enter Tryz.func90, Tryz.ntmps90
  go_wp2
  go_ret
  exact ⟨rfl, unhide HB⟩
set_option maxRecDepth 100000 in
set_option maxHeartbeats 1000000 in
theorem dropC_clo (k : Nat) (app : Int) (q : Con) (w : World) (h : w.cell? ⟨k, 0, none⟩ = some (.int .i64 app)) :
    Calls Tryz.prog 91 #[conv q, .pointer (some ⟨k, 0, none⟩)] w fun e w' => e = .returned (.bool (decide (q.app = app))) ∧ Below w.heap.size w w' := by
  obtain ⟨id, ap, nd, me, cp⟩ := q
  have hks := cell_lt h
  have HB := hide (below_al (Below.refl _ w) (.cells #[.int .i64 id, .int .i64 ap, .string (bs nd), .int .i64 me, .int .i64 cp] 61))
  go_enter Tryz.func91, Tryz.ntmps91
  go_wp2
  go_ret
  exact ⟨rfl, unhide HB⟩
set_option maxRecDepth 100000 in
set_option maxHeartbeats 1000000 in
theorem loseM_clo (k : Nat) (nm : List UInt8) (q : Mac) (w : World) (h : w.cell? ⟨k, 0, none⟩ = some (.string (bs nm))) :
    Calls Tryz.prog 94 #[macv q, .pointer (some ⟨k, 0, none⟩)] w fun e w' => e = .returned (.bool (decide (q.name = nm))) ∧ Below w.heap.size w w' := by
  obtain ⟨nd, me, cp, se⟩ := q
  have hks := cell_lt h
  have hbe := bs_eq nd nm
  have HB := hide (below_al (Below.refl _ w) (.cells #[.string (bs nd), .int .i64 me, .int .i64 cp, .int .i64 se] 103))
  go_enter Tryz.func94, Tryz.ntmps94
  go_wp2
  go_ret
  exact ⟨rfl, unhide HB⟩
set_option maxRecDepth 100000 in
set_option maxHeartbeats 1000000 in
theorem loseC_clo (k : Nat) (nm : List UInt8) (q : Con) (w : World) (h : w.cell? ⟨k, 0, none⟩ = some (.string (bs nm))) :
    Calls Tryz.prog 95 #[conv q, .pointer (some ⟨k, 0, none⟩)] w fun e w' => e = .returned (.bool (decide (q.node = nm))) ∧ Below w.heap.size w w' := by
  obtain ⟨id, ap, nd, me, cp⟩ := q
  have hks := cell_lt h
  have hbe := bs_eq nd nm
  have HB := hide (below_al (Below.refl _ w) (.cells #[.int .i64 id, .int .i64 ap, .string (bs nd), .int .i64 me, .int .i64 cp] 61))
  go_enter Tryz.func95, Tryz.ntmps95
  go_wp2
  go_ret
  exact ⟨rfl, unhide HB⟩
end Go.Proofs.YtdkgmfogeabaoaaGreat
