/-
  Several texts of this claim in one: PlaceM, TakB, AppR, StEnd, Draw, Draw2, DrawG, DrawO, DrawP, NameD (pack.py put them together); each says in its own remark what is proved.
-/
import Derived.Test.YtbkchepelhkjlaaGreatPackA
import Derived.Test.YtbkchepelhkjlaaGreatPackF
import Derived.Test.YtbkchepelhkjlaaGreatPackG
import Derived.Test.YtbkchepelhkjlaaGreatCopySt
import Derived.Test.YtbkchepelhkjlaaGreatPackC
import Derived.ArgAppend
import Derived.Deep.AppendLies
import Derived.Laws.Rows
import Derived.Laws.Tables
import Derived.BigQuiet
import Derived.Deep.QuietTactic
import Derived.Deep.RegionWith
import Derived.Laws.IdiomStrings
/-
 Where a queue stands, in plain words; texts held against each other.
-/
namespace Go.Proofs.YtbkchepelhkjlaaGreat
open Go.RowKit
set_option linter.unusedVariables false
/-- the place of the first queue of that name, from place k on; -1 where there is none -/
def placeFrom (nm : List UInt8) : List Q → Nat → Int
 | [], _ => -1
 | q :: t, k => if q.name = nm then k else placeFrom nm t (k + 1)
def place (l : List Q) (nm : List UInt8) : Int := placeFrom nm l 0
theorem placeFrom_step {nm : List UInt8} {l : List Q} {k : Nat} (h : k < l.length) : placeFrom nm (l.drop k) k = if l[k].name = nm then (k : Int) else placeFrom nm (l.drop (k + 1)) (k + 1) := by
 rw [List.drop_eq_getElem_cons h, placeFrom]
theorem placeFrom_end {nm : List UInt8} {l : List Q} {k : Nat} (h : l.length ≤ k) : placeFrom nm (l.drop k) k = -1 := by
 rw [List.drop_of_length_le h]; rfl
end Go.Proofs.YtbkchepelhkjlaaGreat

/-
 Containers, an application, a machine taken out of a state that is the caller's own: what the program's takeConts, drop and lose leave; walks over the dump.
-/
namespace Go.Proofs.YtbkchepelhkjlaaGreat
open Go.RowKit
set_option linter.unusedVariables false
theorem own_mkt {B b N : Nat} {w w' : World} {t t' : TypeId} {sz n : Nat} {ao : Option Addr} (h : Own1 B w.heap.size w t sz ao n) (hm : Mks (fun k => k = b) w w') (hc : Cel w t' b N) (ht : t' ≠ t) : (∀ k, inR ao n k → ¬ (k = b)) ∧ Own1 B w'.heap.size w' t sz ao n := by
 refine ⟨fun k hk e => ?_, (h.mks hm).mono (Nat.le_refl _) hm.size⟩
 obtain ⟨_, _, N', h2⟩ := h.lies k hk
 subst e
 exact ht (hc.type h2)
theorem QHas.mkt {B b n : Nat} {w w' : World} {ao : Option Addr} {l : List Q} {arr : Array Value} (h : QHas B w ao n l) (hm : Mks (fun k => k = b) w w') (hc : Blk w b arr 29) : QHas B w' ao n l :=
 ⟨h.1.mks hm (own_mkt h.2 hm ⟨_, hc, rfl⟩ (by decide)).1, (own_mkt h.2 hm ⟨_, hc, rfl⟩ (by decide)).2⟩
theorem MHas.mkt {B b n : Nat} {w w' : World} {ao : Option Addr} {l : List Mac} {arr : Array Value} (h : MHas B w ao n l) (hm : Mks (fun k => k = b) w w') (hc : Blk w b arr 29) : MHas B w' ao n l :=
 ⟨h.1.mks hm (own_mkt h.2 hm ⟨_, hc, rfl⟩ (by decide)).1, (own_mkt h.2 hm ⟨_, hc, rfl⟩ (by decide)).2⟩
theorem CHas.mkt {B b n : Nat} {w w' : World} {ao : Option Addr} {l : List Con} {arr : Array Value} (h : CHas B w ao n l) (hm : Mks (fun k => k = b) w w') (hc : Blk w b arr 29) : CHas B w' ao n l :=
 ⟨h.1.mks hm (own_mkt h.2 hm ⟨_, hc, rfl⟩ (by decide)).1, (own_mkt h.2 hm ⟨_, hc, rfl⟩ (by decide)).2⟩
theorem PHas.mkt {B b n : Nat} {w w' : World} {ao : Option Addr} {l : List AV} {arr : Array Value} (h : PHas B w ao n l) (hm : Mks (fun k => k = b) w w') (hc : Blk w b arr 29) : PHas B w' ao n l :=
 ⟨h.1.mks hm (own_mkt h.2 hm ⟨_, hc, rfl⟩ (by decide)).1, (own_mkt h.2 hm ⟨_, hc, rfl⟩ (by decide)).2⟩
theorem KHas.mkt {B b : Nat} {w w' : World} {hs : List AV} {l : List Appl} {arr : Array Value} (h : KHas B w hs l) (hm : Mks (fun k => k = b) w w') (hc : Blk w b arr 29) : KHas B w' hs l :=
 ⟨⟨h.heads.1, fun i h1 h2 => let ⟨a, b', c, d⟩ := h.heads.2 i h1 h2; ⟨a, b', c.mks hm (own_mkt (h.own _ (List.getElem_mem h1)) hm ⟨_, hc, rfl⟩ (by decide)).1, d⟩⟩, fun v hv => (own_mkt (h.own v hv) hm ⟨_, hc, rfl⟩ (by decide)).2, h.apart⟩
theorem QHas.base {B B' n : Nat} {w : World} {ao : Option Addr} {l : List Q} (h : QHas B w ao n l) (hb : B' ≤ B) : QHas B' w ao n l := ⟨h.1, h.2.mono hb (Nat.le_refl _)⟩
theorem MHas.base {B B' n : Nat} {w : World} {ao : Option Addr} {l : List Mac} (h : MHas B w ao n l) (hb : B' ≤ B) : MHas B' w ao n l := ⟨h.1, h.2.mono hb (Nat.le_refl _)⟩
theorem PHas.base {B B' n : Nat} {w : World} {ao : Option Addr} {l : List AV} (h : PHas B w ao n l) (hb : B' ≤ B) : PHas B' w ao n l := ⟨h.1, h.2.mono hb (Nat.le_refl _)⟩
theorem KHas.base {B B' : Nat} {w : World} {hs : List AV} {l : List Appl} (h : KHas B w hs l) (hb : B' ≤ B) : KHas B' w hs l := ⟨h.heads, fun v hv => (h.own v hv).mono hb (Nat.le_refl _), h.apart⟩

/-- what is left of the heads and of the applications -/
theorem heads_nil (w : World) : Heads w [] [] := ⟨rfl, fun i h => absurd h (by simp)⟩
theorem heads_cons {w : World} {v : AV} {t : List AV} {a : Appl} {s : List Appl} (h : Heads w (v :: t) (a :: s)) : (v.id = a.id ∧ v.queue = a.queue ∧ AskRow w v.ao v.len a.asks ∧ v.len ≤ v.cap) ∧ Heads w t s :=
 ⟨h.2 0 (by simp) (by simp), by simpa using h.1, fun i h1 h2 => by have := h.2 (i + 1) (by simpa using h1) (by simpa using h2); simpa using this⟩
theorem heads_put {w : World} {v : AV} {t : List AV} {a : Appl} {s : List Appl} (h : v.id = a.id ∧ v.queue = a.queue ∧ AskRow w v.ao v.len a.asks ∧ v.len ≤ v.cap) (h' : Heads w t s) : Heads w (v :: t) (a :: s) :=
 ⟨by simp [h'.1], fun i h1 h2 => by
  cases i with
  | zero => exact h
  | succ i => exact h'.2 i (by simpa using h1) (by simpa using h2)⟩
theorem heads_filter {w : World} (f : Int → Bool) : ∀ (hs : List AV) (l : List Appl), Heads w hs l → Heads w (hs.filter (fun v => f v.id)) (l.filter (fun a => f a.id))
 | [], [], _ => heads_nil w
 | [], a :: s, h => absurd h.1 (by simp)
 | v :: t, [], h => absurd h.1 (by simp)
 | v :: t, a :: s, h => by
  obtain ⟨h1, h2⟩ := heads_cons h
  have ih := heads_filter f t s h2
  cases hf : f a.id with
  | true => rw [List.filter_cons_of_pos (by simpa [h1.1] using hf), List.filter_cons_of_pos (by simpa using hf)]; exact heads_put h1 ih
  | false => rw [List.filter_cons_of_neg (by simp [h1.1, hf]), List.filter_cons_of_neg (by simp [hf])]; exact ih
theorem KHas.filter {B : Nat} {w : World} {hs : List AV} {l : List Appl} (h : KHas B w hs l) (f : Int → Bool) : KHas B w (hs.filter (fun v => f v.id)) (l.filter (fun a => f a.id)) :=
 ⟨heads_filter f hs l h.heads, fun v hv => h.own v (List.mem_filter.1 hv).1, h.apart.filter _⟩

theorem TakC.stays {w : World} {g N : Nat} {l gl : List Con} (h : TakC w g (N * 5) l gl) (hl : l.length ≤ N) : CHas g w (some ⟨g, 0, none⟩) l.length l := by
 obtain ⟨v, _, hly, _⟩ := h
 exact ⟨hly.rowC, .inr ⟨g, N, rfl, Nat.le_refl _, hly.lt, hly.cel, hl⟩⟩
theorem TakM.stays {w : World} {g N : Nat} {l gl : List Mac} (h : TakM w g (N * 4) l gl) (hl : l.length ≤ N) : MHas g w (some ⟨g, 0, none⟩) l.length l := by
 obtain ⟨v, _, hly, _⟩ := h
 exact ⟨hly.rowM, .inr ⟨g, N, rfl, Nat.le_refl _, hly.lt, hly.cel, hl⟩⟩
theorem TakP.stays {w : World} {g N : Nat} {l gl : List AV} (h : TakP w g (N * 3) l gl) (hl : l.length ≤ N) : PHas g w (some ⟨g, 0, none⟩) l.length l := by
 obtain ⟨v, _, hly, _⟩ := h
 exact ⟨hly.rowP, .inr ⟨g, N, rfl, Nat.le_refl _, hly.lt, hly.cel, hl⟩⟩

/-- what takeConts leaves: the box of the state bears the containers that stay; those that are gone are handed back -/
def TkAns (w : World) (b : Nat) (x : Sls) (s : St) (p : Con → Bool) (e : Ending) (w' : World) : Prop :=
 ∃ go gn gc, e = .returned (.slice go gn gc) ∧ Blk w' b (svc ⟨x.qa, x.ql, x.qc, x.aa, x.al, x.ac, x.ma, x.ml, x.mc, some ⟨w.heap.size, 0, none⟩, (s.cs.filter (fun q => !p q)).length, (s.cs.filter (fun q => !p q)).length⟩ s) 29
  ∧ CHas w.heap.size w' (some ⟨w.heap.size, 0, none⟩) (s.cs.filter (fun q => !p q)).length (s.cs.filter (fun q => !p q)) ∧ CHas (w.heap.size + 2) w' go gn (s.cs.filter p) ∧ Mks (fun k => k = b) w w'

theorem mks_of {b N : Nat} {w w' : World} {t : TypeId} {arr : Array Value} (hb : Below w.heap.size w w') (hk : Blk w b arr t) (v : Value) (j : Nat) : Mks (fun k => k = b) w (w'.setCell ⟨b, j, none⟩ v) := (Mks.of_below hb).sc b j v rfl

set_option maxRecDepth 100000 in
set_option maxHeartbeats 2000000 in
theorem takeConts_any (gf : Nat) (lb : Array Value) (eg : ∀ args w, (callFunc gf args).run Tryz.prog w = .ok (.enter gf args) w) (p : Con → Bool) (b : Nat) (x : Sls) (s : St) (w : World) (hk : Blk w b (svc x s) 29) (h : ConRow w x.ca x.cl s.cs) (hl : x.cl ≤ 1048576)
  (hp : ∀ wx q, q ∈ s.cs → Below w.heap.size w wx → Calls Tryz.prog gf (#[conv q] ++ lb) wx fun e w' => e = .returned (.bool (p q)) ∧ Below wx.heap.size wx w') :
  Calls Tryz.prog 93 #[.pointer (some ⟨b, 0, none⟩), .func (.func gf) #[] lb] w (TkAns w b x s p) := by
 obtain ⟨qa, ql, qc, aa, al, ac, ma, ml, mc, ca, cl, cc⟩ := x
 obtain ⟨qs, clock, epoch, next, serial, apps, ms, cs⟩ := s
 simp only at *
 have CT := hide (takingFromC_any ca cl cc cs w h hl)
 have HLN := hide h.1
 have HK := hide hk
 have HP := hide hp
 have d7 := hk.at 7
 have hbs := hk.lt
 simp at d7
 clear h hk hp
 go_enter Tryz.func93, Tryz.ntmps93
 go_wp2_with fail
 refine (unhide CT).mono ?_
 rintro e w1 ⟨rfl, ht, hs1, hb⟩
 have CA := hide (takeAllC_any gf lb eg p w.heap.size (cl * 5) cs [] w1 ht (by have := unhide HLN; simp; omega) (fun wx q hq hbx => unhide HP wx q hq (hb.trans hbx)))
 have HB1 := hide hb
 clear ht hb CT hs1
 go_wp2_with fail
 refine (unhide CA).mono ?_
 rintro e w2 ⟨rfl, ht, hb⟩
 have HB2 := hide ((unhide HB1).trans hb)
 have HST := hide (ht.stays (by have := unhide HLN; have := List.length_filter_le (fun q => !p q) cs; omega))
 obtain ⟨v, hbk, hly, how⟩ := ht
 obtain ⟨go, gc, rfl, hgc, hgo⟩ := cown_has how
 rw [List.nil_append] at hgo hbk
 have HGO := hide hgo
 have k0 := hbk.at 0
 have k1 := hbk.at 1
 obtain ⟨n1, hn1⟩ : ∃ n, (cs.filter (fun q => !p q)).length = n := ⟨_, rfl⟩
 obtain ⟨n2, hn2⟩ : ∃ n, (cs.filter p).length = n := ⟨_, rfl⟩
 rw [hn1] at k0 k1
 rw [hn2] at k0 k1
 simp at k0 k1
 have K2 := hide (show Blk w2 b _ 29 from ((unhide HB2).block b hbs).trans (unhide HK))
 have e7 := (unhide K2).at 7
 have f7 := (unhide K2).f 7
 simp at e7
 have hz2 : w.heap.size + 1 < w2.heap.size := hbk.lt
 have HN1 := hide hn1
 have HN2 := hide hn2
 have hne : ¬ (b = w.heap.size + 1) := by omega
 have hne2 : ¬ (w.heap.size + 1 = b) := by omega
 clear hbk hly how hb HB1 CA d7 hgo hgc hn1 hn2
 go_wp2
 go_ret
 refine ⟨go, n2, gc, rfl, ?_, ?_, ?_, ?_⟩
 ·show Blk _ b #[.slice qa ql qc, .int .i64 clock, .int .i64 epoch, .int .i64 next, .int .i64 serial, .slice aa al ac, .slice ma ml mc, .slice _ (cs.filter (fun q => !p q)).length (cs.filter (fun q => !p q)).length] _
  rw [unhide HN1]
  exact (unhide K2).set 7 _
 ·have hm : Mks (fun k => k = b) w2 (w2.setCell ⟨b, 7, none⟩ (.slice (some ⟨w.heap.size, 0, none⟩) n1 n1)) := Mks.one _ _ _ _ _ rfl
  exact (unhide HST).mkt hm (unhide K2)
 ·have hm : Mks (fun k => k = b) w2 (w2.setCell ⟨b, 7, none⟩ (.slice (some ⟨w.heap.size, 0, none⟩) n1 n1)) := Mks.one _ _ _ _ _ rfl
  have := (unhide HGO).mkt hm (unhide K2)
  rw [unhide HN2] at this
  exact this
 ·exact mks_of (N := 0) (unhide HB2) (unhide HK) _ 7

/-- a state that owns its lists, from B on -/
structure SHas (B : Nat) (w : World) (x : Sls) (s : St) (hs : List AV) : Prop where
 q : QHas B w x.qa x.ql s.qs
 p : PHas B w x.aa x.al hs
 k : KHas B w hs s.apps
 m : MHas B w x.ma x.ml s.ms
 c : CHas B w x.ca x.cl s.cs
 cap : SCap x
 rm : RmS B w.heap.size w x hs
theorem SHas.below {B : Nat} {w w' : World} {x : Sls} {s : St} {hs : List AV} (h : SHas B w x s hs) (hb : Below w.heap.size w w') : SHas B w' x s hs := ⟨h.q.below hb, h.p.below hb, h.k.below hb, h.m.below hb, h.c.below hb, h.cap, (h.rm.below hb).mono (Nat.le_refl _) hb.size⟩
theorem SHas.mkt {B b : Nat} {w w' : World} {x : Sls} {s : St} {hs : List AV} {arr : Array Value} (h : SHas B w x s hs) (hm : Mks (fun k => k = b) w w') (hc : Blk w b arr 29) : SHas B w' x s hs := ⟨h.q.mkt hm hc, h.p.mkt hm hc, h.k.mkt hm hc, h.m.mkt hm hc, h.c.mkt hm hc, h.cap, (h.rm.mks hm).mono (Nat.le_refl _) hm.size⟩
theorem SHas.base {B B' : Nat} {w : World} {x : Sls} {s : St} {hs : List AV} (h : SHas B w x s hs) (hb : B' ≤ B) : SHas B' w x s hs := ⟨h.q.base hb, h.p.base hb, h.k.base hb, h.m.base hb, h.c.base hb, h.cap, h.rm.mono hb (Nat.le_refl _)⟩
theorem SHas.ans {B : Nat} {w : World} {x : Sls} {s : St} {hs : List AV} (h : SHas B w x s hs) : SAns B w.heap.size w x s hs := sans_of h.q h.p h.k h.m h.c h.cap h.rm
theorem SAns.has {B E : Nat} {w : World} {x : Sls} {s : St} {hs : List AV} (h : SAns B E w x s hs) (hE : E ≤ w.heap.size) : SHas B w x s hs :=
 ⟨⟨h.row.1, h.q.mono (Nat.le_refl _) hE⟩, ⟨h.av, h.a.mono (Nat.le_refl _) hE⟩, ⟨h.heads, fun v hv => (h.asks v hv).mono (Nat.le_refl _) hE, h.apart⟩, ⟨h.row.2.2.1, h.m.mono (Nat.le_refl _) hE⟩, ⟨h.row.2.2.2, h.c.mono (Nat.le_refl _) hE⟩, h.cap, h.rm.mono (Nat.le_refl _) hE⟩
/-- behind a call that takes out of the state in box b: the state that is left, and what is gone -/
def TkSt (B : Nat) (w : World) (b : Nat) (s : St) (hs : List AV) (gone : List Con) (e : Ending) (w' : World) : Prop :=
 ∃ y go gn gc, e = .returned (.slice go gn gc) ∧ Blk w' b (svc y s) 29 ∧ SHas B w' y s hs ∧ CHas w.heap.size w' go gn gone ∧ (∀ k, inR go gn k → ¬ inR y.ca y.cl k) ∧ Mks (fun k => k = b) w w'
theorem takeConts_st {B : Nat} (gf : Nat) (lb : Array Value) (eg : ∀ args w, (callFunc gf args).run Tryz.prog w = .ok (.enter gf args) w) (p : Con → Bool) (b : Nat) (x : Sls) (s : St) (hs : List AV) (w : World) (hk : Blk w b (svc x s) 29) (h : SHas B w x s hs) (hB : B ≤ w.heap.size) (hl : x.cl ≤ 1048576)
  (hp : ∀ wx q, q ∈ s.cs → Below w.heap.size w wx → Calls Tryz.prog gf (#[conv q] ++ lb) wx fun e w' => e = .returned (.bool (p q)) ∧ Below wx.heap.size wx w') :
  Calls Tryz.prog 93 #[.pointer (some ⟨b, 0, none⟩), .func (.func gf) #[] lb] w (TkSt B w b ⟨s.qs, s.clock, s.epoch, s.next, s.serial, s.apps, s.ms, s.cs.filter (fun q => !p q)⟩ hs (s.cs.filter p)) := by
 refine (takeConts_any gf lb eg p b x s w hk h.c.1 hl hp).mono ?_
 rintro e w' ⟨go, gn, gc, rfl, h1, h2, h3, hm⟩
 refine ⟨_, go, gn, gc, rfl, h1, ⟨h.q.mkt hm hk, h.p.mkt hm hk, h.k.mkt hm hk, h.m.mkt hm hk, h2.base hB, ⟨h.cap.q, h.cap.a, h.cap.m, Nat.le_refl _⟩, (fun r => ⟨r.1, r.2.1, r.2.2.1, (h2.base hB).2, r.2.2.2.2⟩) ((h.rm.mks hm).mono (Nat.le_refl _) hm.size)⟩, h3.base (by omega), fun k hk1 hk2 => ?_, hm⟩
 obtain ⟨a1, _⟩ := h3.2.lies k hk1
 obtain ⟨_, o, e⟩ := hk2
 cases e
 omega

set_option maxRecDepth 100000 in
set_option maxHeartbeats 1000000 in
theorem dropP_clo (k : Nat) (app : Int) (v : AV) (w : World) (h : w.cell? ⟨k, 0, none⟩ = some (.int .i64 app)) :
  Calls Tryz.prog 143 #[avv v, .pointer (some ⟨k, 0, none⟩)] w fun e w' => e = .returned (.bool (decide (v.id = app))) ∧ Below w.heap.size w w' := by
 obtain ⟨vi, vq, va, vl, vc⟩ := v
 have hks := cell_lt h
 have HB := hide (below_al (Below.refl _ w) (.cells #[.int .i64 vi, .string (bs vq), .slice va vl vc] 41))
 go_enter Tryz.func143, Tryz.ntmps143
 go_wp2
 go_ret
 exact ⟨rfl, unhide HB⟩
set_option maxRecDepth 100000 in
set_option maxHeartbeats 1000000 in
theorem dropC_clo (k : Nat) (app : Int) (q : Con) (w : World) (h : w.cell? ⟨k, 0, none⟩ = some (.int .i64 app)) :
  Calls Tryz.prog 144 #[conv q, .pointer (some ⟨k, 0, none⟩)] w fun e w' => e = .returned (.bool (decide (q.app = app))) ∧ Below w.heap.size w w' := by
 obtain ⟨id, ap, nd, me, cp⟩ := q
 have hks := cell_lt h
 have HB := hide (below_al (Below.refl _ w) (.cells #[.int .i64 id, .int .i64 ap, .string (bs nd), .int .i64 me, .int .i64 cp] 70))
 go_enter Tryz.func144, Tryz.ntmps144
 go_wp2
 go_ret
 exact ⟨rfl, unhide HB⟩
set_option maxRecDepth 100000 in
set_option maxHeartbeats 1000000 in
theorem loseM_clo (k : Nat) (nm : List UInt8) (q : Mac) (w : World) (h : w.cell? ⟨k, 0, none⟩ = some (.string (bs nm))) :
  Calls Tryz.prog 147 #[macv q, .pointer (some ⟨k, 0, none⟩)] w fun e w' => e = .returned (.bool (decide (q.name = nm))) ∧ Below w.heap.size w w' := by
 obtain ⟨nd, me, cp, se⟩ := q
 have hks := cell_lt h
 have hbe := bs_eq nd nm
 have HB := hide (below_al (Below.refl _ w) (.cells #[.string (bs nd), .int .i64 me, .int .i64 cp, .int .i64 se] 56))
 go_enter Tryz.func147, Tryz.ntmps147
 go_wp2
 go_ret
 exact ⟨rfl, unhide HB⟩
set_option maxRecDepth 100000 in
set_option maxHeartbeats 1000000 in
theorem loseC_clo (k : Nat) (nm : List UInt8) (q : Con) (w : World) (h : w.cell? ⟨k, 0, none⟩ = some (.string (bs nm))) :
  Calls Tryz.prog 148 #[conv q, .pointer (some ⟨k, 0, none⟩)] w fun e w' => e = .returned (.bool (decide (q.node = nm))) ∧ Below w.heap.size w w' := by
 obtain ⟨id, ap, nd, me, cp⟩ := q
 have hks := cell_lt h
 have hbe := bs_eq nd nm
 have HB := hide (below_al (Below.refl _ w) (.cells #[.int .i64 id, .int .i64 ap, .string (bs nd), .int .i64 me, .int .i64 cp] 70))
 go_enter Tryz.func148, Tryz.ntmps148
 go_wp2
 go_ret
 exact ⟨rfl, unhide HB⟩
end Go.Proofs.YtbkchepelhkjlaaGreat

/-
 One more appended to a row that has the room that it says, or none: in place, or in a new block.
-/
namespace Go.Proofs.YtbkchepelhkjlaaGreat
open Go.RowKit
set_option linter.unusedVariables false
theorem lay_of {w : World} {t : TypeId} {g N : Nat} {cs : List Value} (hc : Cel w t g N) (h : ∀ j u, cs[j]? = some u → w.cell? ⟨g, j, none⟩ = some u) (hl : cs.length ≤ N) : Lay w t g N cs := by
 obtain ⟨arr, h1, h2⟩ := hc
 refine ⟨arr.toList.drop cs.length, ?_, by simp; omega⟩
 have e : cs ++ arr.toList.drop cs.length = arr.toList := by
  apply List.ext_getElem?
  intro j
  by_cases hj : j < cs.length
  ·rw [List.getElem?_append_left hj]
   have h3 := h j cs[j] (List.getElem?_eq_getElem hj)
   simp [World.cell?, h1] at h3
   rw [List.getElem?_eq_getElem hj, Array.getElem?_toList]
   exact h3.symm
  ·rw [List.getElem?_append_right (by omega), List.getElem?_drop]
   congr 1
   omega
 rw [e]
 simpa using h1
/-- many cells of the block are stored -/
theorem mks_cells {S : Nat → Prop} {g : Nat} (hg : S g) : ∀ (vs : List Value) (o : Nat) (a w : World), Mks S a w → Mks S a (w.setCells g o vs)
 | [], _, _, _, h => h
 | v :: r, o, a, w, h => mks_cells hg r (o + 1) a _ (h.sc g o v hg)
theorem Cel.isThere {w : World} {t : TypeId} {g N : Nat} (h : Cel w t g N) {j : Nat} (hj : j < N) : (w.cell? ⟨g, j, none⟩).isSome = true := by
 obtain ⟨arr, h1, h2⟩ := h
 have h3 : j < arr.size := by omega
 simp [World.cell?, h1, h3]
theorem below_none {w w' : World} (h : w.grownBy w' none) : Below w.heap.size w w' := (Below.refl _ w).grown h (Nat.le_refl _) (fun k e => by cases e)
/-- what stands behind the append: the row, its room, and that nothing else has turned -/
structure AppR (B : Nat) (w : World) (e : TypeId) (sz : Nat) (ao : Option Addr) (n : Nat) (all : List Value) (g cap : Nat) (w' : World) : Prop where
 cells : ∀ j u, all[j]? = some u → w'.cell? ⟨g, j, none⟩ = some u
 own : Own1 B w'.heap.size w' e sz (some ⟨g, 0, none⟩) cap
 cap : n ≤ cap
 mks : Mks (fun k => ∃ N, Cel w e k N ∧ B ≤ k) w w'
end Go.Proofs.YtbkchepelhkjlaaGreat

/-
 A state in its box, read and stored as a whole; rows of other types stand while a row of applications turns.
-/
namespace Go.Proofs.YtbkchepelhkjlaaGreat
open Go.RowKit
set_option linter.unusedVariables false
theorem own_mkc {B : Nat} {S : Nat → Prop} {w w' : World} {t t' : TypeId} {sz n : Nat} {ao : Option Addr} (h : Own1 B w.heap.size w t sz ao n) (hm : Mks S w w') (hS : ∀ k, S k → ∃ N, Cel w t' k N) (ht : t' ≠ t) : (∀ k, inR ao n k → ¬ S k) ∧ Own1 B w'.heap.size w' t sz ao n := by
 refine ⟨fun k hk e => ?_, (h.mks hm).mono (Nat.le_refl _) hm.size⟩
 obtain ⟨_, _, N', h2⟩ := h.lies k hk
 obtain ⟨N, h3⟩ := hS k e
 exact ht (h3.type h2)
section
variable {B : Nat} {S : Nat → Prop} {w w' : World}
theorem QHas.mkc {n : Nat} {ao : Option Addr} {l : List Q} (h : QHas B w ao n l) (hm : Mks S w w') (hS : ∀ k, S k → ∃ N, Cel w 41 k N) : QHas B w' ao n l :=
 ⟨h.1.mks hm (own_mkc h.2 hm hS (by decide)).1, (own_mkc h.2 hm hS (by decide)).2⟩
theorem MHas.mkc {n : Nat} {ao : Option Addr} {l : List Mac} (h : MHas B w ao n l) (hm : Mks S w w') (hS : ∀ k, S k → ∃ N, Cel w 41 k N) : MHas B w' ao n l :=
 ⟨h.1.mks hm (own_mkc h.2 hm hS (by decide)).1, (own_mkc h.2 hm hS (by decide)).2⟩
theorem CHas.mkc {n : Nat} {ao : Option Addr} {l : List Con} (h : CHas B w ao n l) (hm : Mks S w w') (hS : ∀ k, S k → ∃ N, Cel w 41 k N) : CHas B w' ao n l :=
 ⟨h.1.mks hm (own_mkc h.2 hm hS (by decide)).1, (own_mkc h.2 hm hS (by decide)).2⟩
theorem KHas.mkc {hs : List AV} {l : List Appl} (h : KHas B w hs l) (hm : Mks S w w') (hS : ∀ k, S k → ∃ N, Cel w 41 k N) : KHas B w' hs l :=
 ⟨⟨h.heads.1, fun i h1 h2 => let ⟨a, b', c, d⟩ := h.heads.2 i h1 h2; ⟨a, b', c.mks hm (own_mkc (h.own _ (List.getElem_mem h1)) hm hS (by decide)).1, d⟩⟩, fun v hv => (own_mkc (h.own v hv) hm hS (by decide)).2, h.apart⟩
end
theorem Own1.le {B E : Nat} {w : World} {t : TypeId} {sz n m : Nat} {ao : Option Addr} (h : Own1 B E w t sz ao n) (hm : m ≤ n) : Own1 B E w t sz ao m := by
 rcases h with h | ⟨g, M, h1, h2, h3, h4, h5⟩
 ·exact .inl (by omega)
 ·exact .inr ⟨g, M, h1, h2, h3, h4, by omega⟩
/-- one more application, without an ask, behind the others -/
theorem SHas.add {B g cap : Nat} {w w' : World} {x : Sls} {s : St} {hs : List AV} (h : SHas B w x s hs) (hB : B ≤ w.heap.size) (app nx : Int) (qu : List UInt8)
  (ha : AppR B w 41 3 x.aa (x.al + 1) (pcells hs ++ pcell ⟨app, qu, none, 0, 0⟩) g cap w') :
  SHas B w' ⟨x.qa, x.ql, x.qc, some ⟨g, 0, none⟩, x.al + 1, cap, x.ma, x.ml, x.mc, x.ca, x.cl, x.cc⟩ ⟨s.qs, s.clock, s.epoch, nx, s.serial, s.apps ++ [⟨app, qu, []⟩], s.ms, s.cs⟩ (hs ++ [⟨app, qu, none, 0, 0⟩]) := by
 have hS : ∀ k, (∃ N, Cel w 41 k N ∧ B ≤ k) → ∃ N, Cel w 41 k N := fun k hk => let ⟨N, a, _⟩ := hk; ⟨N, a⟩
 have hal : x.al = hs.length := h.p.1.1
 have hrm := (h.rm.mks ha.mks).mono (Nat.le_refl B) ha.mks.size
 have hk := h.k.mkc ha.mks hS
 refine ⟨h.q.mkc ha.mks hS, ⟨?_, ha.own.le ha.cap⟩, ?_, h.m.mkc ha.mks hS, h.c.mkc ha.mks hS, ⟨h.cap.q, ha.cap, h.cap.m, h.cap.c⟩, ⟨hrm.1, ha.own, hrm.2.2.1, hrm.2.2.2.1, fun v hv => ?_⟩⟩
 ·rcases ha.own with e | ⟨g', M, e, _, _, hc, hM⟩
  ·have := ha.cap; omega
  ·cases e
   have hl : (pcells (hs ++ [⟨app, qu, none, 0, 0⟩])).length ≤ M * 3 := by
    rw [pcells_len, List.length_append]
    exact Nat.mul_le_mul_right _ (by have := ha.cap; simp; omega)
   have := (lay_of hc (cs := pcells (hs ++ [⟨app, qu, none, 0, 0⟩])) (by rw [pcells_app]; exact ha.cells) hl).rowP
   rw [List.length_append] at this
   rw [hal]
   exact this
 ·exact hk.snoc (Below.refl _ _) (Nat.le_trans hB ha.mks.size) app qu none 0 [] (Nat.le_refl _) ⟨rfl, .inl rfl⟩ (.inl rfl)
 ·rcases List.mem_append.1 hv with hv | hv
  ·exact hrm.2.2.2.2 v hv
  ·obtain rfl := List.mem_singleton.1 hv
   exact .inl rfl
end Go.Proofs.YtbkchepelhkjlaaGreat

/-
 What the laws' own draws do: a cursor over the code's bytes, and numbers and texts drawn by it, each within its bounds; walks over the dump.
-/
namespace Go.Proofs.YtbkchepelhkjlaaGreat
open Go.RowKit
set_option linter.unusedVariables false
theorem and_mask (x m : Int) (h0 : 0 ≤ m) (h1 : m < 9223372036854775808) : 0 ≤ bits .and .i64 x m ∧ bits .and .i64 x m ≤ m := by
 obtain ⟨M, rfl⟩ := Int.eq_ofNat_of_zero_le h0
 have hM : (BitVec.ofInt 64 (M : Int)).toNat = M := by rw [BitVec.toNat_ofInt]; omega
 have hle : (BitVec.ofInt 64 x &&& BitVec.ofInt 64 (M : Int)).toNat ≤ M := by
  rw [BitVec.toNat_and, hM]; exact Nat.and_le_right
 have e : bits .and .i64 x (M : Int) = IntKind.i64.wrap ((BitVec.ofInt 64 x &&& BitVec.ofInt 64 (M : Int)).toNat : Int) := rfl
 rw [e, IntKind.wrap_i64]
 omega

/-- the code's bytes can be read: nothing, or a row of bytes below block B -/
def Code (w : World) (B : Nat) (ao : Option Addr) (len : Nat) : Prop :=
 B ≤ w.heap.size ∧ len ≤ 1048576 ∧ (len = 0 ∨ ∃ b off, ∃ zs : Nat → Int, ao = some ⟨b, off, none⟩ ∧ b < B ∧ (∀ j, j < len → w.cell? ⟨b, off + j, none⟩ = some (.int .u8 (zs j))) ∧ ∀ j, 0 ≤ zs j ∧ zs j ≤ 255)
/-- block g is a cursor over the code -/
def Cur (w : World) (g : Nat) (ao : Option Addr) (len cap : Nat) : Prop :=
 ∃ (i : Nat) (h : Int), w.heap[g]? = some (.cells #[.slice ao len cap, .int .i64 (i : Int), .int .i64 h] 123 (0, 0)) ∧ i ≤ len
theorem Cur.lt {w : World} {g : Nat} {ao : Option Addr} {len cap : Nat} (h : Cur w g ao len cap) : g < w.heap.size := by
 obtain ⟨i, x, h, _⟩ := h
 exact lt_of_block h
theorem Code.below {w w' : World} {B B' : Nat} {ao : Option Addr} {len : Nat} (h : Code w B ao len) (hb : Below B' w w') (hB : B ≤ B') : Code w' B ao len := by
 refine ⟨Nat.le_trans h.1 hb.size, h.2.1, ?_⟩
 rcases h.2.2 with h0 | ⟨b, off, zs, h1, h2, h3, h4⟩
 ·exact .inl h0
 ·exact .inr ⟨b, off, zs, h1, h2, fun j hj => (hb.cell (p := ⟨b, off + j, none⟩) (by show b < B'; omega)).trans (h3 j hj), h4⟩
theorem Code.grown {w w' : World} {B g : Nat} {ao : Option Addr} {len : Nat} (h : Code w B ao len) (hg : w.grownBy w' (some g)) (hB : B ≤ g) : Code w' B ao len :=
 h.below (below_grownBy (Below.refl B w) hg h.1 hB) (Nat.le_refl _)
theorem Cur.below {w w' : World} {B g : Nat} {ao : Option Addr} {len cap : Nat} (h : Cur w g ao len cap) (hb : Below B w w') (hg : g < B) : Cur w' g ao len cap := by
 obtain ⟨i, x, h1, h2⟩ := h
 exact ⟨i, x, (hb.block g hg).trans h1, h2⟩

theorem cur_step1 {w : World} {g : Nat} {ao : Option Addr} {len cap i : Nat} {h : Int} (hg : w.heap[g]? = some (.cells #[.slice ao len cap, .int .i64 (i : Int), .int .i64 h] 123 (0, 0))) (H : Int) (n m : Nat) (hi : i ≤ len) :
  Cur (((w.setCell ⟨g, 2, none⟩ (.int .i64 H)).drewN n).drewN m) g ao len cap ∧ w.grownBy (((w.setCell ⟨g, 2, none⟩ (.int .i64 H)).drewN n).drewN m) (some g) := by
 refine ⟨⟨i, H, ?_, hi⟩, grownBy_drewN (grownBy_drewN (grownBy_set (grownBy_refl w _) 2 _) n) m⟩
 have := heap_setCell_same w g 2 _ _ (.int .i64 H) hg
 exact this.trans (by simp)
theorem cur_step2 {w : World} {g : Nat} {ao : Option Addr} {len cap i : Nat} {h : Int} (hg : w.heap[g]? = some (.cells #[.slice ao len cap, .int .i64 (i : Int), .int .i64 h] 123 (0, 0))) (H : Int) (n : Nat) (hi : i + 1 ≤ len) :
  Cur (((w.setCell ⟨g, 2, none⟩ (.int .i64 H)).drewN n).setCell ⟨g, 1, none⟩ (.int .i64 ((i : Int) + 1))) g ao len cap ∧ w.grownBy (((w.setCell ⟨g, 2, none⟩ (.int .i64 H)).drewN n).setCell ⟨g, 1, none⟩ (.int .i64 ((i : Int) + 1))) (some g) := by
 refine ⟨⟨i + 1, H, ?_, hi⟩, grownBy_set (grownBy_drewN (grownBy_set (grownBy_refl w _) 2 _) n) 1 _⟩
 have h1 := heap_setCell_same w g 2 _ _ (.int .i64 H) hg
 have h2 := heap_setCell_same ((w.setCell ⟨g, 2, none⟩ (.int .i64 H)).drewN n) g 1 _ _ (.int .i64 ((i : Int) + 1)) h1
 exact h2.trans (by simp)

set_option maxRecDepth 100000 in
set_option maxHeartbeats 2000000 in
theorem l01Byte_any (B g : Nat) (ao : Option Addr) (len cap : Nat) (w : World) (hcur : Cur w g ao len cap) (hcode : Code w B ao len) (hB : B ≤ g) :
  Calls Tryz.prog 106 #[.pointer (some ⟨g, 0, none⟩)] w fun e w' => ∃ x : Int, e = .returned (.int .i64 x) ∧ 0 ≤ x ∧ x ≤ 255 ∧ Cur w' g ao len cap ∧ w.grownBy w' (some g) := by
 obtain ⟨i, h, hg, hi⟩ := hcur
 have c0 : w.cell? ⟨g, 0, none⟩ = some (.slice ao len cap) := by simp [World.cell?, hg]
 have c1 : w.cell? ⟨g, 1, none⟩ = some (.int .i64 (i : Int)) := by simp [World.cell?, hg]
 have c2 : w.cell? ⟨g, 2, none⟩ = some (.int .i64 h) := by simp [World.cell?, hg]
 have f1 : w.frozen? ⟨g, 1, none⟩ = false := by simp [World.frozen?, hg]
 have f2 : w.frozen? ⟨g, 2, none⟩ = false := by simp [World.frozen?, hg]
 have HG := hide hg
 clear hg
 have hl := hcode.2.1
 by_cases hlt : i < len
 ·rcases hcode.2.2 with h0 | ⟨b, off, zs, rfl, hbB, hz, hzs⟩
  ·omega
  have hcz : ∀ v, (w.setCell ⟨g, 2, none⟩ v).cell? ⟨b, off + i, none⟩ = some (.int .u8 (zs i)) := fun v => (World.cell?_setCell_other _ ⟨g, 2, none⟩ ⟨b, off + i, none⟩ _ (by intro e; have := congrArg Addr.block e; simp at this; omega)).trans (hz i hlt)
  obtain ⟨hz0, hz1⟩ := hzs i
  have hlt2 : (i : Int) < (len : Int) := by omega
  clear hz hzs hcode
  go_enter Tryz.func106, Tryz.ntmps106
  go_wp2_with fail
  go_quiet (fail)
  go_wp2_with fail
  go_quiet (fail)
  go_wp2_with fail
  go_quiet (fail)
  go_wp2
  go_ret
  have hm := and_mask
  exact ⟨_, rfl, (hm _ 255 (by decide) (by decide)).1, (hm _ 255 (by decide) (by decide)).2, cur_step2 (unhide HG) _ _ (by omega)⟩
 ·clear hcode
  go_enter Tryz.func106, Tryz.ntmps106
  go_wp2_with fail
  go_quiet (fail)
  go_wp2_with fail
  go_quiet (fail)
  go_wp2
  go_ret
  have hm := and_mask
  exact ⟨_, rfl, (hm _ 255 (by decide) (by decide)).1, (hm _ 255 (by decide) (by decide)).2, cur_step1 (unhide HG) _ _ _ hi⟩

set_option maxRecDepth 100000 in
set_option maxHeartbeats 1000000 in
theorem l01Below_any (B g : Nat) (ao : Option Addr) (len cap : Nat) (n : Int) (w : World) (hcur : Cur w g ao len cap) (hcode : Code w B ao len) (hB : B ≤ g) (hn0 : 0 < n) (hn1 : n ≤ 9223372036854775807) :
  Calls Tryz.prog 55 #[.pointer (some ⟨g, 0, none⟩), .int .i64 n] w fun e w' => ∃ x : Int, e = .returned (.int .i64 x) ∧ 0 ≤ x ∧ x < n ∧ Cur w' g ao len cap ∧ w.grownBy w' (some g) := by
 have HC := hide hcur
 have HK := hide hcode
 clear hcur hcode
 by_cases h256 : n ≤ 256
 ·go_enter Tryz.func55, Tryz.ntmps55
  go_wp2_with fail
  refine (l01Byte_any B g ao len cap _ (unhide HC) (unhide HK) hB).mono ?_
  rintro e w1 ⟨x, rfl, hx0, hx1, hc1, hg1⟩
  have HC1 := hide hc1
  have HG1 := hide hg1
  clear hc1 hg1
  go_wp2
  go_ret
  exact ⟨_, rfl, Int.emod_nonneg _ (by omega), Int.emod_lt_of_pos _ hn0, unhide HC1, unhide HG1⟩
 ·go_enter Tryz.func55, Tryz.ntmps55
  go_wp2_with fail
  refine (l01Byte_any B g ao len cap _ (unhide HC) (unhide HK) hB).mono ?_
  rintro e w1 ⟨x1, rfl, hx10, hx11, hc1, hg1⟩
  have HC1 := hide hc1
  have HK1 := hide ((unhide HK).grown hg1 hB)
  have HG1 := hide hg1
  clear hc1 hg1
  go_wp2_with fail
  refine (l01Byte_any B g ao len cap _ (unhide HC1) (unhide HK1) hB).mono ?_
  rintro e w2 ⟨x2, rfl, hx20, hx21, hc2, hg2⟩
  have HC2 := hide hc2
  have HK2 := hide ((unhide HK1).grown hg2 hB)
  have HG2 := hide (grownBy_trans (unhide HG1) hg2)
  clear hc2 hg2
  go_wp2_with fail
  refine (l01Byte_any B g ao len cap _ (unhide HC2) (unhide HK2) hB).mono ?_
  rintro e w3 ⟨x3, rfl, hx30, hx31, hc3, hg3⟩
  have HC3 := hide hc3
  have HK3 := hide ((unhide HK2).grown hg3 hB)
  have HG3 := hide (grownBy_trans (unhide HG2) hg3)
  clear hc3 hg3
  go_wp2_with fail
  refine (l01Byte_any B g ao len cap _ (unhide HC3) (unhide HK3) hB).mono ?_
  rintro e w4 ⟨x4, rfl, hx40, hx41, hc4, hg4⟩
  have HC4 := hide hc4
  have HG4 := hide (grownBy_trans (unhide HG3) hg4)
  clear hc4 hg4
  go_wp2
  go_ret
  exact ⟨_, rfl, Int.emod_nonneg _ (by omega), Int.emod_lt_of_pos _ hn0, unhide HC4, unhide HG4⟩
end Go.Proofs.YtbkchepelhkjlaaGreat

/-
 The cursor made anew, and what is drawn by it: numbers out of a list, and texts of so many bytes; walks over the dump.
-/
namespace Go.Proofs.YtbkchepelhkjlaaGreat
open Go.RowKit
set_option linter.unusedVariables false
/-- the cursor at block g stands, the code can be read, and of what w0 held nothing but block g has turned -/
def CSt (w0 : World) (B g : Nat) (ao : Option Addr) (len cap : Nat) (w : World) : Prop := Cur w g ao len cap ∧ Code w B ao len ∧ w0.grownBy w (some g) ∧ B ≤ g
theorem CSt.step {w0 w w' : World} {B g : Nat} {ao : Option Addr} {len cap : Nat} (h : CSt w0 B g ao len cap w) (hc : Cur w' g ao len cap) (hg : w.grownBy w' (some g)) : CSt w0 B g ao len cap w' :=
 ⟨hc, h.2.1.grown hg h.2.2.2, grownBy_trans h.2.2.1 hg, h.2.2.2⟩
theorem CSt.below {w0 w w' : World} {B g : Nat} {ao : Option Addr} {len cap : Nat} (h : CSt w0 B g ao len cap w) (hb : Below w.heap.size w w') : CSt w0 B g ao len cap w' :=
 ⟨h.1.below hb h.1.lt, h.2.1.below hb h.2.1.1, grownBy_below h.2.2.1 hb, h.2.2.2⟩
theorem CSt.alloc {w0 w : World} {B g : Nat} {ao : Option Addr} {len cap : Nat} (h : CSt w0 B g ao len cap w) (o : Obj) : CSt w0 B g ao len cap (w.alloc o) := h.below ((Below.refl _ _).alloc (Nat.le_refl _) o)
theorem CSt.done {w0 w : World} {B g : Nat} {ao : Option Addr} {len cap : Nat} (h : CSt w0 B g ao len cap w) (hg : w0.heap.size ≤ g) : Below w0.heap.size w0 w := below_grownBy (Below.refl _ _) h.2.2.1 (Nat.le_refl _) hg

theorem below_st {w0 : World} {B g : Nat} {ao : Option Addr} {len cap : Nat} (n : Int) (w : World) (h : CSt w0 B g ao len cap w) (hn0 : 0 < n) (hn1 : n ≤ 9223372036854775807) :
  Calls Tryz.prog 55 #[.pointer (some ⟨g, 0, none⟩), .int .i64 n] w fun e w' => ∃ x : Int, e = .returned (.int .i64 x) ∧ 0 ≤ x ∧ x < n ∧ CSt w0 B g ao len cap w' ∧ w.grownBy w' (some g) :=
 (l01Below_any B g ao len cap n w h.1 h.2.1 h.2.2.2 hn0 hn1).mono fun e w' ⟨x, h1, h2, h3, h4, h5⟩ => ⟨x, h1, h2, h3, h.step h4 h5, h5⟩
set_option maxRecDepth 100000 in
set_option maxHeartbeats 1000000 in
theorem new_st (B : Nat) (ao : Option Addr) (len cap : Nat) (w : World) (hcode : Code w B ao len) :
  Calls Tryz.prog 46 #[.slice ao len cap] w fun e w' => e = .returned (.pointer (some ⟨w.heap.size, 0, none⟩)) ∧ CSt w B w.heap.size ao len cap w' := by
 have hl := hcode.2.1
 have HK := hide hcode
 go_enter Tryz.func46, Tryz.ntmps46
 go_wp2
 go_loop [3, 4] (fun v i => ∃ (k : Nat) (h : Int), k ≤ len ∧ i = .int .i64 (k : Int) ∧ v = .int .i64 h ∧ 0 ≤ h ∧ h ≤ 1073741823) (fun _ i => len - (intOf i).toNat)
 case atStart => exact ⟨0, _, Nat.zero_le _, rfl, rfl, by omega, by omega⟩
 case round =>
  obtain ⟨k, h, hk, rfl, rfl, hh0, hh1⟩ := hrel
  by_cases hlt : k < len
  ·rcases hcode.2.2 with h0 | ⟨b, off, zs, rfl, hbB, hz, hzs⟩
   ·omega
   by_cases h4 : k < 4000
   ·have hcz := hz k hlt
    obtain ⟨hz0, hz1⟩ := hzs k
    have hlt2 : (k : Int) < (len : Int) := by omega
    have hm := hide (and_mask (h * 131 + zs k + 7) 1073741823 (by decide) (by decide))
    clear hz hzs hcode
    go_wp2
    go_round
    case rel => exact ⟨k + 1, _, by omega, by go_num, rfl, (unhide hm).1, (unhide hm).2⟩
    case measure => simp [intOf]; omega
   ·clear hz hzs hcode
    go_wp2
    go_ret
    refine ⟨rfl, ⟨0, h, ?_, Nat.zero_le _⟩, (unhide HK).below ((Below.refl _ _).alloc (Nat.le_refl _) _) (unhide HK).1, grownBy_below (grownBy_refl w _) ((Below.refl _ _).alloc (Nat.le_refl _) _), (unhide HK).1⟩
    show (w.heap.push _)[w.heap.size]? = _
    simp
  ·clear hcode
   go_wp2
   go_ret
   refine ⟨rfl, ⟨0, h, ?_, Nat.zero_le _⟩, (unhide HK).below ((Below.refl _ _).alloc (Nat.le_refl _) _) (unhide HK).1, grownBy_below (grownBy_refl w _) ((Below.refl _ _).alloc (Nat.le_refl _) _), (unhide HK).1⟩
   show (w.heap.push _)[w.heap.size]? = _
   simp

/-- block q holds a list of so many ints -/
def Ints (w : World) (q L : Nat) : Prop := q < w.heap.size ∧ ∀ j, j < L → ∃ z : Int, w.cell? ⟨q, j, none⟩ = some (.int .i64 z) ∧ -9223372036854775808 ≤ z ∧ z ≤ 9223372036854775807
set_option maxRecDepth 100000 in
set_option maxHeartbeats 1000000 in
theorem pick_st {w0 : World} {B g : Nat} {ao : Option Addr} {len cap : Nat} (q L c : Nat) (w : World) (h : CSt w0 B g ao len cap w) (hq : Ints w q L) (hne : q ≠ g) (hL : 0 < L) (hL1 : L ≤ 1000) :
  Calls Tryz.prog 101 #[.pointer (some ⟨g, 0, none⟩), .slice (some ⟨q, 0, none⟩) L c] w fun e w' => ∃ x : Int, e = .returned (.int .i64 x) ∧ -9223372036854775808 ≤ x ∧ x ≤ 9223372036854775807 ∧ CSt w0 B g ao len cap w' := by
 have HS := hide h
 clear h
 go_enter Tryz.func101, Tryz.ntmps101
 go_wp2_with fail
 refine (below_st _ _ (unhide HS) (by omega) (by omega)).mono ?_
 rintro e w1 ⟨x, rfl, hx0, hx1, hs1, hg1⟩
 obtain ⟨X, rfl⟩ := Int.eq_ofNat_of_zero_le hx0
 obtain ⟨z, hz, hz0, hz1⟩ := hq.2 X (by omega)
 have hc : w1.cell? ⟨q, X, none⟩ = some (.int .i64 z) := (World.cell?_of_block (w := w) (a := ⟨q, X, none⟩) (hg1.block q hq.1 (fun e => hne (Option.some.inj e)))).trans hz
 have HS1 := hide hs1
 clear hs1 hg1 hz hq
 go_wp2
 go_ret
 exact ⟨z, rfl, hz0, hz1, unhide HS1⟩
theorem ints_alloc (w : World) (t : TypeId) (zs : List Int) (h : zs.all (fun z => decide (-9223372036854775808 ≤ z) && decide (z ≤ 9223372036854775807)) = true) : Ints (w.alloc (.cells (zs.map (Value.int .i64)).toArray t)) w.heap.size zs.length := by
 refine ⟨by simp, fun j hj => ⟨zs[j], ?_, ?_⟩⟩
 ·rw [World.cell?_alloc_mark]; simp [hj]
 ·have := List.all_eq_true.1 h zs[j] (List.getElem_mem hj)
  simpa using this
end Go.Proofs.YtbkchepelhkjlaaGreat

/-
 Draws: ints picked, what a cursor leaves alone.
-/
namespace Go.Proofs.YtbkchepelhkjlaaGreat
open Go.RowKit
set_option linter.unusedVariables false
theorem Var.grown {w w' : World} {t : TypeId} {q g : Nat} {x y : Int} (h : Var w t q x y) (hg : w.grownBy w' (some g)) (hn : q ≠ g) : Var w' t q x y := h.same (hg.block q h.lt (fun e => hn (Option.some.inj e)))
/-- a store into a block that is not the cursor's, made behind w1 -/
theorem grown_set {w w1 : World} {g k j : Nat} {v : Value} (h : w.grownBy w1 (some g)) (hk : w.heap.size ≤ k) : w.grownBy (w1.setCell ⟨k, j, none⟩ v) (some g) :=
 ⟨h.os, h.tape, h.output, by simpa using h.size, fun i hi hn => by
  rw [heap_setCell_other w1 ⟨k, j, none⟩ i v (by have : i < k := Nat.lt_of_lt_of_le hi hk; exact Nat.ne_of_lt this)]
  exact h.block i hi hn⟩
theorem CSt.set {w0 w : World} {B g : Nat} {ao : Option Addr} {len cap : Nat} (h : CSt w0 B g ao len cap w) (k j : Nat) (v : Value) (hk : w0.heap.size ≤ k) (hB : B ≤ k) (hn : k ≠ g) : CSt w0 B g ao len cap (w.setCell ⟨k, j, none⟩ v) := by
 refine ⟨?_, ?_, grown_set h.2.2.1 hk, h.2.2.2⟩
 ·obtain ⟨i, x, h1, h2⟩ := h.1
  exact ⟨i, x, by rw [heap_setCell_other w ⟨k, j, none⟩ g v (fun e => hn e.symm)]; exact h1, h2⟩
 ·have hb : Below B w (w.setCell ⟨k, j, none⟩ v) := (Below.refl B w).setCell hB v
  exact h.2.1.below hb (Nat.le_refl _)
end Go.Proofs.YtbkchepelhkjlaaGreat

/-
 One of so many: what the model's l01Once answers at a cursor; a walk over the dump.
-/
namespace Go.Proofs.YtbkchepelhkjlaaGreat
open Go.RowKit
set_option linter.unusedVariables false
set_option maxHeartbeats 400000 in
theorem l01Once_any (B g : Nat) (ao : Option Addr) (len cap : Nat) (n : Int) (w : World) (hcur : Cur w g ao len cap) (hcode : Code w B ao len) (hB : B ≤ g) (hn0 : 0 < n) (hn1 : n ≤ 9223372036854775807) :
  Calls Tryz.prog 152 #[.pointer (some ⟨g, 0, none⟩), .int .i64 n] w fun e w' => ∃ x : Bool, e = .returned (.bool x) ∧ Cur w' g ao len cap ∧ w.grownBy w' (some g) := by
 have HC := hide hcur
 have HK := hide hcode
 clear hcur hcode
 go_enter Tryz.func152, Tryz.ntmps152
 go_wp2_with fail
 refine (l01Below_any B g ao len cap _ _ (unhide HC) (unhide HK) hB hn0 hn1).mono ?_
 rintro e w1 ⟨x, rfl, hx0, hx1, hc1, hg1⟩
 have HC1 := hide hc1
 have HG1 := hide hg1
 clear hc1 hg1
 go_wp2
 go_ret
 exact ⟨_, rfl, unhide HC1, unhide HG1⟩
theorem once_st {w0 : World} {B g : Nat} {ao : Option Addr} {len cap : Nat} (n : Int) (w : World) (h : CSt w0 B g ao len cap w) (hn0 : 0 < n) (hn1 : n ≤ 9223372036854775807) :
  Calls Tryz.prog 152 #[.pointer (some ⟨g, 0, none⟩), .int .i64 n] w fun e w' => ∃ x : Bool, e = .returned (.bool x) ∧ CSt w0 B g ao len cap w' :=
 (l01Once_any B g ao len cap n w h.1 h.2.1 h.2.2.2 hn0 hn1).mono fun e w' ⟨x, h1, h4, h5⟩ => ⟨x, h1, h.step h4 h5⟩
end Go.Proofs.YtbkchepelhkjlaaGreat

/-
 A text out of a list, drawn: what the model's l01Pick answers at a cursor; a walk over the dump.
-/
namespace Go.Proofs.YtbkchepelhkjlaaGreat
open Go.RowKit
set_option linter.unusedVariables false
/-- block q holds a list of so many texts, each of at most twelve bytes -/
def PickT (w : World) (q L : Nat) : Prop := q < w.heap.size ∧ ∀ j, j < L → ∃ s : ByteArray, w.cell? ⟨q, j, none⟩ = some (.string s) ∧ s.size ≤ 12
theorem pickt_alloc (w : World) (t : TypeId) (xs : List ByteArray) (h : xs.all (fun s => decide (s.size ≤ 12)) = true) : PickT (w.alloc (.cells (xs.map Value.string).toArray t)) w.heap.size xs.length := by
 refine ⟨by simp, fun j hj => ⟨xs[j], ?_, ?_⟩⟩
 ·rw [World.cell?_alloc_mark]; simp [hj]
 ·have := List.all_eq_true.1 h xs[j] (List.getElem_mem hj)
  simpa using this
set_option maxRecDepth 100000 in
set_option maxHeartbeats 1000000 in
theorem pickS_st {w0 : World} {B g : Nat} {ao : Option Addr} {len cap : Nat} (q L c : Nat) (w : World) (h : CSt w0 B g ao len cap w) (hq : PickT w q L) (hne : q ≠ g) (hL : 0 < L) (hL1 : L ≤ 1000) :
  Calls Tryz.prog 102 #[.pointer (some ⟨g, 0, none⟩), .slice (some ⟨q, 0, none⟩) L c] w fun e w' => ∃ s : ByteArray, e = .returned (.string s) ∧ s.size ≤ 12 ∧ CSt w0 B g ao len cap w' := by
 have HS := hide h
 clear h
 go_enter Tryz.func102, Tryz.ntmps102
 go_wp2_with fail
 refine (below_st _ _ (unhide HS) (by omega) (by omega)).mono ?_
 rintro e w1 ⟨x, rfl, hx0, hx1, hs1, hg1⟩
 obtain ⟨X, rfl⟩ := Int.eq_ofNat_of_zero_le hx0
 obtain ⟨z, hz, hz0⟩ := hq.2 X (by omega)
 have hc : w1.cell? ⟨q, X, none⟩ = some (.string z) := (World.cell?_of_block (w := w) (a := ⟨q, X, none⟩) (hg1.block q hq.1 (fun e => hne (Option.some.inj e)))).trans hz
 have HS1 := hide hs1
 clear hs1 hg1 hz hq
 go_wp2
 go_ret
 exact ⟨z, rfl, hz0, unhide HS1⟩
end Go.Proofs.YtbkchepelhkjlaaGreat

/-
 A name that is drawn; a walk over the dump.
-/
namespace Go.Proofs.YtbkchepelhkjlaaGreat
open Go.RowKit
set_option linter.unusedVariables false
set_option maxRecDepth 100000 in
set_option maxHeartbeats 1000000 in
theorem name_st {w0 : World} {B g : Nat} {ao : Option Addr} {len cap : Nat} (w : World) (h : CSt w0 B g ao len cap w) :
  Calls Tryz.prog 112 #[.pointer (some ⟨g, 0, none⟩)] w fun e w' => ∃ s : ByteArray, e = .returned (.string s) ∧ s.size ≤ 12 ∧ CSt w0 B g ao len cap w' := by
 have HS := hide h
 clear h
 go_enter Tryz.func112, Tryz.ntmps112
 go_wp2_with fail
 refine (once_st 16 _ (unhide HS) (by decide) (by decide)).mono ?_
 rintro e w1 ⟨x, rfl, hs1⟩
 have HS1 := hide hs1
 have hne : Hid (w1.heap.size ≠ g) := hide (by have := hs1.1.lt; omega)
 clear hs1
 cases x with
 | true =>
  have hq := hide (pickt_alloc w1 9 [⟨#[]⟩, ⟨#[65]⟩, ⟨#[48, 49, 50, 51, 52, 53, 54, 55, 56, 57]⟩, ⟨#[48, 49, 50, 51, 52, 53, 54, 55, 56, 57, 48]⟩, ⟨#[97, 32, 98]⟩] (by decide))
  go_wp2_with fail
  refine (pickS_st w1.heap.size 5 5 _ ((unhide HS1).alloc _) (unhide hq) (unhide hne) (by decide) (by decide)).mono ?_
  rintro e w2 ⟨x, rfl, hx0, hs2⟩
  have HS2 := hide hs2
  clear hs2
  go_wp2
  go_ret
  exact ⟨x, rfl, hx0, unhide HS2⟩
 | false =>
  have hq := hide (pickt_alloc w1 9 [⟨#[97]⟩, ⟨#[98]⟩, ⟨#[114, 111, 111, 116]⟩] (by decide))
  go_wp2_with fail
  refine (pickS_st w1.heap.size 3 3 _ ((unhide HS1).alloc _) (unhide hq) (unhide hne) (by decide) (by decide)).mono ?_
  rintro e w2 ⟨x, rfl, hx0, hs2⟩
  have HS2 := hide hs2
  clear hs2
  go_wp2
  go_ret
  exact ⟨x, rfl, hx0, unhide HS2⟩
end Go.Proofs.YtbkchepelhkjlaaGreat
