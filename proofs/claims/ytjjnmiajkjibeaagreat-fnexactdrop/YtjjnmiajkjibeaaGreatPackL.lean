/-
  Several texts of this claim in one: TkaP, PlaceM, TakB, TakD2, BlM, ResI (pack.py put them together); each says in its own remark what is proved.
-/
import Derived.Test.YtjjnmiajkjibeaaGreatPackK
import Derived.Test.YtjjnmiajkjibeaaGreatPackA
import Derived.Test.YtjjnmiajkjibeaaGreatTkaC
import Derived.Test.YtjjnmiajkjibeaaGreatPackI
import Derived.Deep.CutBlock
import Derived.Deep.CutRange
/-
  The program's generic list from which some are taken, of applications: takeAll (mktak.py wrote this); a walk over the dump.
-/
namespace Go.Proofs.YtjjnmiajkjibeaaGreat
open Go.RowKit
set_option linter.unusedVariables false

/-- how many stay -/
def stLenP (w : World) (p : Nat) : Nat := match w.cell? ⟨p, 0, none⟩ with | some (.slice _ n _) => n | _ => 0
theorem stLenP_of {w : World} {p n c : Nat} {ao : Option Addr} (h : w.cell? ⟨p, 0, none⟩ = some (.slice ao n c)) : stLenP w p = n := by simp [stLenP, h]
theorem TakP.len {w : World} {g M : Nat} {l gl : List AV} (h : TakP w g M l gl) : stLenP w (g + 1) = l.length := by
  obtain ⟨v, hb, _⟩ := h
  have := hb.at 0
  simp at this
  exact stLenP_of this

set_option maxRecDepth 100000 in
set_option maxHeartbeats 4000000 in
theorem takeAllP_any (gf : Nat) (lb : Array Value) (eg : ∀ args w, (callFunc gf args).run Tryz.prog w = .ok (.enter gf args) w) (p : AV → Bool) (g M : Nat) (l gl : List AV) (w : World) (h : TakP w g M l gl) (hl : gl.length + l.length ≤ 1048576)
    (hp : ∀ wx q, q ∈ l → Below g w wx → Calls Tryz.prog gf (#[avv q] ++ lb) wx fun e w' => e = .returned (.bool (p q)) ∧ Below wx.heap.size wx w') :
    Calls Tryz.prog 88 #[.pointer (some ⟨g + 1, 0, none⟩), .func (.func gf) #[] lb] w fun e w' => e = .returned (.tuple #[]) ∧ TakP w' g M (l.filter (fun q => !p q)) (gl ++ l.filter p) ∧ Below g w w' := by
  have HT := hide h
  have HP := hide hp
  clear h hp
  go_enter Tryz.func88, Tryz.ntmps88
  go_wp2
  go_loopw [4] (fun i wr => ∃ (k : Nat), i = .int .i64 (k : Int) ∧ Hid (∃ d, d ≤ l.length ∧ k = ((l.take d).filter (fun q => !p q)).length ∧ TakP wr g M ((l.take d).filter (fun q => !p q) ++ l.drop d) (gl ++ (l.take d).filter p)) ∧ Hid (Below g w wr)) (fun i wr => stLenP wr (g + 1) - (intOf i).toNat)
  case atStart => exact ⟨0, rfl, hide ⟨0, Nat.zero_le _, by simp, by simpa using unhide HT⟩, hide (Below.refl _ _)⟩
  case round =>
    obtain ⟨k, rfl, HK, HB⟩ := hrel
    obtain ⟨d, hd, hk, ht⟩ := unhide HK
    have hkd : k ≤ d := by rw [hk]; refine Nat.le_trans (List.length_filter_le _ _) ?_; rw [List.length_take]; omega
    have hk2 : k ≤ 1048576 := by omega
    obtain ⟨v, hbk, hly, how⟩ := ht
    have c0 := (hbk.at 0).trans (show _ = some (Value.slice (some ⟨g, 0, none⟩) ((l.take d).filter (fun q => !p q) ++ l.drop d).length ((l.take d).filter (fun q => !p q) ++ l.drop d).length) from rfl)
    have hlen : ((l.take d).filter (fun q => !p q) ++ l.drop d).length = k + (l.length - d) := by rw [List.length_append, List.length_drop, ← hk]
    rw [hlen] at c0
    obtain ⟨n, hn⟩ : ∃ n, k + (l.length - d) = n := ⟨_, rfl⟩
    rw [hn] at c0
    have hm := stLenP_of c0
    by_cases hlt : d < l.length
    · have hkn : (k : Int) < n := by omega
      have hel : k < ((l.take d).filter (fun q => !p q) ++ l.drop d).length := by omega
      have hq : ((l.take d).filter (fun q => !p q) ++ l.drop d)[k] = l[d] := by
        rw [List.getElem_append_right (by omega)]
        simp [← hk]
      obtain ⟨x0, x1, x2⟩ := pcells_at _ k hel
      rw [hq] at x0 x1 x2
      have e0 := hly.cell x0; have e1 := hly.cell x1; have e2 := hly.cell x2
      have CL := hide (unhide HP wr l[d] (List.getElem_mem hlt) (unhide HB))
      have hsp : l.take (d + 1) = l.take d ++ [l[d]] := by rw [List.take_succ_eq_append_getElem hlt]
      have hdr : l.drop d = l[d] :: l.drop (d + 1) := List.drop_eq_getElem_cons hlt
      have hgk : (gl ++ (l.take d).filter p).length ≤ 1048576 := by
        have := List.length_filter_le p (l.take d)
        rw [List.length_take] at this
        rw [List.length_append]
        omega
      have CT := hide (fun wx (hb : Below wr.heap.size wr wx) => takeP_any g M k _ _ wx (TakP.below ⟨v, hbk, hly, how⟩ hb) hel (by omega) hgk)
      rw [hq] at CT
      have HTK := hide (show TakP wr g M _ _ from ⟨v, hbk, hly, how⟩)
      obtain ⟨q, hqe⟩ : ∃ q, l[d] = q := ⟨_, rfl⟩
      rw [hqe] at e0 e1 e2 CL CT hsp hdr
      have HSP := hide hsp
      have HDR := hide hdr
      have HKK := hide hk
      have HLN := hide hlen
      have HNN := hide hn
      have HM := hide hm
      have hd' : d + 1 ≤ l.length := hlt
      obtain ⟨id, nd, sa, sl, sc⟩ := q
      simp only at e0 e1 e2
      have k0 : (0 : Int) ≤ k := by omega
      clear hbk hly how x0 x1 x2 hq hqe hsp hdr hk hlen hn hm hgk HK hel
      cases hpq : p ⟨id, nd, sa, sl, sc⟩ with
      | true =>
        rw [hpq] at CL
        have HPQ := hide hpq
        clear hpq
        go_wp2_with (go_at_fn gf; refine (unhide CL).mono ?_; rintro e w1 ⟨rfl, hb⟩; have HB1 := hide hb; clear hb CL)
        go_wp2_with fail
        refine (unhide CT _ (unhide HB1)).mono ?_
        rintro e w2 ⟨rfl, ht, hb⟩
        have HT2 := hide ht
        have hz : g ≤ wr.heap.size := by obtain ⟨v, hbk, _⟩ := unhide HTK; have := hbk.lt; omega
        have HB2 := hide (((unhide HB).trans ((unhide HB1).mono hz)).trans hb)
        clear ht hb CT
        go_wp2
        go_roundw
        case rel =>
          refine ⟨k, rfl, hide ⟨d + 1, hd', ?_, ?_⟩, HB2⟩
          · rw [unhide HSP, List.filter_append, unhide HKK]
            simp [unhide HPQ]
          · have := unhide HT2
            rw [unhide HDR, List.eraseIdx_append_of_length_le (by have := unhide HKK; omega)] at this
            rw [show k - ((l.take d).filter (fun q => !p q)).length = 0 by have := unhide HKK; omega, List.eraseIdx_cons_zero] at this
            rw [unhide HSP, List.filter_append, List.filter_append]
            simpa [unhide HPQ] using this
        case measure =>
          rw [(unhide HT2).len, unhide HM]
          have hh := unhide HLN
          have hnn := unhide HNN
          rw [List.length_eraseIdx_of_lt (by omega), hh]
          simp [intOf]
          omega
      | false =>
        rw [hpq] at CL
        have HPQ := hide hpq
        clear hpq
        go_wp2_with (go_at_fn gf; refine (unhide CL).mono ?_; rintro e w1 ⟨rfl, hb⟩; have HB1 := hide hb; clear hb CL)
        have hz : g ≤ wr.heap.size := by obtain ⟨v, hbk, _⟩ := unhide HTK; have := hbk.lt; omega
        go_wp2
        go_roundw
        case rel =>
          refine ⟨k + 1, by go_num, hide ⟨d + 1, hd', ?_, ?_⟩, hide ((unhide HB).trans ((unhide HB1).mono hz))⟩
          · rw [unhide HSP, List.filter_append, List.length_append, ← unhide HKK]
            simp [unhide HPQ]
          · have := (unhide HTK).below (unhide HB1)
            rw [unhide HDR] at this
            rw [unhide HSP, List.filter_append, List.filter_append]
            simpa [unhide HPQ] using this
        case measure =>
          rw [((unhide HTK).below (unhide HB1)).len, unhide HM, unhide HLN]
          have hnn := unhide HNN
          simp [intOf]
          omega
    · have hkn : ¬ (k : Int) < n := by omega
      have HTK := hide (show TakP wr g M _ _ from ⟨v, hbk, hly, how⟩)
      have htk : l.take d = l := List.take_of_length_le (by omega)
      have hdr : l.drop d = [] := List.drop_of_length_le (by omega)
      rw [htk, hdr, List.append_nil] at HTK
      clear hbk hly how HK hk hlen htk hdr
      go_wp2
      go_end0
      exact ⟨rfl, unhide HTK, unhide HB⟩
end Go.Proofs.YtjjnmiajkjibeaaGreat

/-
  Where a queue stands, in plain words; texts held against each other.
-/
namespace Go.Proofs.YtjjnmiajkjibeaaGreat
open Go.RowKit
set_option linter.unusedVariables false

/-- the place of the first queue of that name, from place k on; -1 where there is none -/
def placeFrom (nm : List UInt8) : List Q → Nat → Int
  | [], _ => -1
  | q :: t, k => if q.name = nm then k else placeFrom nm t (k + 1)
def place (l : List Q) (nm : List UInt8) : Int := placeFrom nm l 0
theorem placeFrom_step {nm : List UInt8} {l : List Q} {k : Nat} (h : k < l.length) : placeFrom nm (l.drop k) k = if l[k].name = nm then (k : Int) else placeFrom nm (l.drop (k + 1)) (k + 1) := by
  rw [List.drop_eq_getElem_cons h, placeFrom]
theorem placeFrom_end {nm : List UInt8} {l : List Q} {k : Nat} (h : l.length ≤ k) : placeFrom nm (l.drop k) k = -1 := by
  rw [List.drop_of_length_le h]; rfl
end Go.Proofs.YtjjnmiajkjibeaaGreat

/-
  Containers, an application, a machine taken out of a state that is the caller's own: what the program's takeConts, drop and lose leave; walks over the dump.
-/
namespace Go.Proofs.YtjjnmiajkjibeaaGreat
open Go.RowKit
set_option linter.unusedVariables false

theorem own_mkt {B b N : Nat} {w w' : World} {t t' : TypeId} {sz n : Nat} {ao : Option Addr} (h : Own1 B w.heap.size w t sz ao n) (hm : Mks (fun k => k = b) w w') (hc : Cel w t' b N) (ht : t' ≠ t) : (∀ k, inR ao n k → ¬ (k = b)) ∧ Own1 B w'.heap.size w' t sz ao n := by
  refine ⟨fun k hk e => ?_, (h.mks hm).mono (Nat.le_refl _) hm.size⟩
  obtain ⟨_, _, N', h2⟩ := h.lies k hk
  subst e
  exact ht (hc.type h2)
theorem QHas.mkt {B b n : Nat} {w w' : World} {ao : Option Addr} {l : List Q} {arr : Array Value} (h : QHas B w ao n l) (hm : Mks (fun k => k = b) w w') (hc : Blk w b arr 35) : QHas B w' ao n l :=
  ⟨h.1.mks hm (own_mkt h.2 hm ⟨_, hc, rfl⟩ (by decide)).1, (own_mkt h.2 hm ⟨_, hc, rfl⟩ (by decide)).2⟩
theorem MHas.mkt {B b n : Nat} {w w' : World} {ao : Option Addr} {l : List Mac} {arr : Array Value} (h : MHas B w ao n l) (hm : Mks (fun k => k = b) w w') (hc : Blk w b arr 35) : MHas B w' ao n l :=
  ⟨h.1.mks hm (own_mkt h.2 hm ⟨_, hc, rfl⟩ (by decide)).1, (own_mkt h.2 hm ⟨_, hc, rfl⟩ (by decide)).2⟩
theorem CHas.mkt {B b n : Nat} {w w' : World} {ao : Option Addr} {l : List Con} {arr : Array Value} (h : CHas B w ao n l) (hm : Mks (fun k => k = b) w w') (hc : Blk w b arr 35) : CHas B w' ao n l :=
  ⟨h.1.mks hm (own_mkt h.2 hm ⟨_, hc, rfl⟩ (by decide)).1, (own_mkt h.2 hm ⟨_, hc, rfl⟩ (by decide)).2⟩
theorem PHas.mkt {B b n : Nat} {w w' : World} {ao : Option Addr} {l : List AV} {arr : Array Value} (h : PHas B w ao n l) (hm : Mks (fun k => k = b) w w') (hc : Blk w b arr 35) : PHas B w' ao n l :=
  ⟨h.1.mks hm (own_mkt h.2 hm ⟨_, hc, rfl⟩ (by decide)).1, (own_mkt h.2 hm ⟨_, hc, rfl⟩ (by decide)).2⟩
theorem KHas.mkt {B b : Nat} {w w' : World} {hs : List AV} {l : List Appl} {arr : Array Value} (h : KHas B w hs l) (hm : Mks (fun k => k = b) w w') (hc : Blk w b arr 35) : KHas B w' hs l :=
  ⟨⟨h.heads.1, fun i h1 h2 => let ⟨a, b', c, d⟩ := h.heads.2 i h1 h2; ⟨a, b', c.mks hm (own_mkt (h.own _ (List.getElem_mem h1)) hm ⟨_, hc, rfl⟩ (by decide)).1, d⟩⟩, fun v hv => (own_mkt (h.own v hv) hm ⟨_, hc, rfl⟩ (by decide)).2, h.apart⟩
theorem QHas.base {B B' n : Nat} {w : World} {ao : Option Addr} {l : List Q} (h : QHas B w ao n l) (hb : B' ≤ B) : QHas B' w ao n l := ⟨h.1, h.2.mono hb (Nat.le_refl _)⟩
theorem MHas.base {B B' n : Nat} {w : World} {ao : Option Addr} {l : List Mac} (h : MHas B w ao n l) (hb : B' ≤ B) : MHas B' w ao n l := ⟨h.1, h.2.mono hb (Nat.le_refl _)⟩
theorem PHas.base {B B' n : Nat} {w : World} {ao : Option Addr} {l : List AV} (h : PHas B w ao n l) (hb : B' ≤ B) : PHas B' w ao n l := ⟨h.1, h.2.mono hb (Nat.le_refl _)⟩
theorem KHas.base {B B' : Nat} {w : World} {hs : List AV} {l : List Appl} (h : KHas B w hs l) (hb : B' ≤ B) : KHas B' w hs l := ⟨h.heads, fun v hv => (h.own v hv).mono hb (Nat.le_refl _), h.apart⟩

/-- what is left of the heads and of the applications -/
theorem heads_nil (w : World) : Heads w [] [] := ⟨rfl, fun i h => absurd h (by simp)⟩
theorem heads_cons {w : World} {v : AV} {t : List AV} {a : Appl} {s : List Appl} (h : Heads w (v :: t) (a :: s)) : (v.id = a.id ∧ v.queue = a.queue ∧ AskRow w v.ao v.len a.asks ∧ v.len ≤ v.cap) ∧ Heads w t s :=
  ⟨h.2 0 (by simp) (by simp), by simpa using h.1, fun i h1 h2 => by have := h.2 (i + 1) (by simpa using h1) (by simpa using h2); simpa using this⟩
theorem heads_put {w : World} {v : AV} {t : List AV} {a : Appl} {s : List Appl} (h : v.id = a.id ∧ v.queue = a.queue ∧ AskRow w v.ao v.len a.asks ∧ v.len ≤ v.cap) (h' : Heads w t s) : Heads w (v :: t) (a :: s) :=
  ⟨by simp [h'.1], fun i h1 h2 => by
    cases i with
    | zero => exact h
    | succ i => exact h'.2 i (by simpa using h1) (by simpa using h2)⟩
theorem heads_filter {w : World} (f : Int → Bool) : ∀ (hs : List AV) (l : List Appl), Heads w hs l → Heads w (hs.filter (fun v => f v.id)) (l.filter (fun a => f a.id))
  | [], [], _ => heads_nil w
  | [], a :: s, h => absurd h.1 (by simp)
  | v :: t, [], h => absurd h.1 (by simp)
  | v :: t, a :: s, h => by
    obtain ⟨h1, h2⟩ := heads_cons h
    have ih := heads_filter f t s h2
    cases hf : f a.id with
    | true => rw [List.filter_cons_of_pos (by simpa [h1.1] using hf), List.filter_cons_of_pos (by simpa using hf)]; exact heads_put h1 ih
    | false => rw [List.filter_cons_of_neg (by simp [h1.1, hf]), List.filter_cons_of_neg (by simp [hf])]; exact ih
theorem KHas.filter {B : Nat} {w : World} {hs : List AV} {l : List Appl} (h : KHas B w hs l) (f : Int → Bool) : KHas B w (hs.filter (fun v => f v.id)) (l.filter (fun a => f a.id)) :=
  ⟨heads_filter f hs l h.heads, fun v hv => h.own v (List.mem_filter.1 hv).1, h.apart.filter _⟩

theorem TakC.stays {w : World} {g N : Nat} {l gl : List Con} (h : TakC w g (N * 5) l gl) (hl : l.length ≤ N) : CHas g w (some ⟨g, 0, none⟩) l.length l := by
  obtain ⟨v, _, hly, _⟩ := h
  exact ⟨hly.rowC, .inr ⟨g, N, rfl, Nat.le_refl _, hly.lt, hly.cel, hl⟩⟩
theorem TakM.stays {w : World} {g N : Nat} {l gl : List Mac} (h : TakM w g (N * 4) l gl) (hl : l.length ≤ N) : MHas g w (some ⟨g, 0, none⟩) l.length l := by
  obtain ⟨v, _, hly, _⟩ := h
  exact ⟨hly.rowM, .inr ⟨g, N, rfl, Nat.le_refl _, hly.lt, hly.cel, hl⟩⟩
theorem TakP.stays {w : World} {g N : Nat} {l gl : List AV} (h : TakP w g (N * 3) l gl) (hl : l.length ≤ N) : PHas g w (some ⟨g, 0, none⟩) l.length l := by
  obtain ⟨v, _, hly, _⟩ := h
  exact ⟨hly.rowP, .inr ⟨g, N, rfl, Nat.le_refl _, hly.lt, hly.cel, hl⟩⟩

/-- what takeConts leaves: the box of the state bears the containers that stay; those that are gone are handed back -/
def TkAns (w : World) (b : Nat) (x : Sls) (s : St) (p : Con → Bool) (e : Ending) (w' : World) : Prop :=
  ∃ go gn gc, e = .returned (.slice go gn gc) ∧ Blk w' b (svc ⟨x.qa, x.ql, x.qc, x.aa, x.al, x.ac, x.ma, x.ml, x.mc, some ⟨w.heap.size, 0, none⟩, (s.cs.filter (fun q => !p q)).length, (s.cs.filter (fun q => !p q)).length⟩ s) 35
    ∧ CHas w.heap.size w' (some ⟨w.heap.size, 0, none⟩) (s.cs.filter (fun q => !p q)).length (s.cs.filter (fun q => !p q)) ∧ CHas (w.heap.size + 2) w' go gn (s.cs.filter p) ∧ Mks (fun k => k = b) w w'

theorem mks_of {b N : Nat} {w w' : World} {t : TypeId} {arr : Array Value} (hb : Below w.heap.size w w') (hk : Blk w b arr t) (v : Value) (j : Nat) : Mks (fun k => k = b) w (w'.setCell ⟨b, j, none⟩ v) := (Mks.of_below hb).sc b j v rfl

set_option maxRecDepth 100000 in
set_option maxHeartbeats 2000000 in
theorem takeConts_any (gf : Nat) (lb : Array Value) (eg : ∀ args w, (callFunc gf args).run Tryz.prog w = .ok (.enter gf args) w) (p : Con → Bool) (b : Nat) (x : Sls) (s : St) (w : World) (hk : Blk w b (svc x s) 35) (h : ConRow w x.ca x.cl s.cs) (hl : x.cl ≤ 1048576)
    (hp : ∀ wx q, q ∈ s.cs → Below w.heap.size w wx → Calls Tryz.prog gf (#[conv q] ++ lb) wx fun e w' => e = .returned (.bool (p q)) ∧ Below wx.heap.size wx w') :
    Calls Tryz.prog 36 #[.pointer (some ⟨b, 0, none⟩), .func (.func gf) #[] lb] w (TkAns w b x s p) := by
  obtain ⟨qa, ql, qc, aa, al, ac, ma, ml, mc, ca, cl, cc⟩ := x
  obtain ⟨qs, clock, epoch, next, serial, apps, ms, cs⟩ := s
  simp only at *
  have CT := hide (takingFromC_any ca cl cc cs w h hl)
  have HLN := hide h.1
  have HK := hide hk
  have HP := hide hp
  have d7 := hk.at 7
  have hbs := hk.lt
  simp at d7
  clear h hk hp
  go_enter Tryz.func36, Tryz.ntmps36
  go_wp2_with fail
  refine (unhide CT).mono ?_
  rintro e w1 ⟨rfl, ht, hs1, hb⟩
  have CA := hide (takeAllC_any gf lb eg p w.heap.size (cl * 5) cs [] w1 ht (by have := unhide HLN; simp; omega) (fun wx q hq hbx => unhide HP wx q hq (hb.trans hbx)))
  have HB1 := hide hb
  clear ht hb CT hs1
  go_wp2_with fail
  refine (unhide CA).mono ?_
  rintro e w2 ⟨rfl, ht, hb⟩
  have HB2 := hide ((unhide HB1).trans hb)
  have HST := hide (ht.stays (by have := unhide HLN; have := List.length_filter_le (fun q => !p q) cs; omega))
  obtain ⟨v, hbk, hly, how⟩ := ht
  obtain ⟨go, gc, rfl, hgc, hgo⟩ := cown_has how
  rw [List.nil_append] at hgo hbk
  have HGO := hide hgo
  have k0 := hbk.at 0
  have k1 := hbk.at 1
  obtain ⟨n1, hn1⟩ : ∃ n, (cs.filter (fun q => !p q)).length = n := ⟨_, rfl⟩
  obtain ⟨n2, hn2⟩ : ∃ n, (cs.filter p).length = n := ⟨_, rfl⟩
  rw [hn1] at k0 k1
  rw [hn2] at k0 k1
  simp at k0 k1
  have K2 := hide (show Blk w2 b _ 35 from ((unhide HB2).block b hbs).trans (unhide HK))
  have e7 := (unhide K2).at 7
  have f7 := (unhide K2).f 7
  simp at e7
  have hz2 : w.heap.size + 1 < w2.heap.size := hbk.lt
  have HN1 := hide hn1
  have HN2 := hide hn2
  have hne : ¬ (b = w.heap.size + 1) := by omega
  have hne2 : ¬ (w.heap.size + 1 = b) := by omega
  clear hbk hly how hb HB1 CA d7 hgo hgc hn1 hn2
  go_wp2
  go_ret
  refine ⟨go, n2, gc, rfl, ?_, ?_, ?_, ?_⟩
  · show Blk _ b #[.slice qa ql qc, .int .i64 clock, .int .i64 epoch, .int .i64 next, .int .i64 serial, .slice aa al ac, .slice ma ml mc, .slice _ (cs.filter (fun q => !p q)).length (cs.filter (fun q => !p q)).length] _
    rw [unhide HN1]
    exact (unhide K2).set 7 _
  · have hm : Mks (fun k => k = b) w2 (w2.setCell ⟨b, 7, none⟩ (.slice (some ⟨w.heap.size, 0, none⟩) n1 n1)) := Mks.one _ _ _ _ _ rfl
    exact (unhide HST).mkt hm (unhide K2)
  · have hm : Mks (fun k => k = b) w2 (w2.setCell ⟨b, 7, none⟩ (.slice (some ⟨w.heap.size, 0, none⟩) n1 n1)) := Mks.one _ _ _ _ _ rfl
    have := (unhide HGO).mkt hm (unhide K2)
    rw [unhide HN2] at this
    exact this
  · exact mks_of (N := 0) (unhide HB2) (unhide HK) _ 7

/-- a state that owns its lists, from B on -/
structure SHas (B : Nat) (w : World) (x : Sls) (s : St) (hs : List AV) : Prop where
  q : QHas B w x.qa x.ql s.qs
  p : PHas B w x.aa x.al hs
  k : KHas B w hs s.apps
  m : MHas B w x.ma x.ml s.ms
  c : CHas B w x.ca x.cl s.cs
  cap : SCap x
theorem SHas.below {B : Nat} {w w' : World} {x : Sls} {s : St} {hs : List AV} (h : SHas B w x s hs) (hb : Below w.heap.size w w') : SHas B w' x s hs := ⟨h.q.below hb, h.p.below hb, h.k.below hb, h.m.below hb, h.c.below hb, h.cap⟩
theorem SHas.mkt {B b : Nat} {w w' : World} {x : Sls} {s : St} {hs : List AV} {arr : Array Value} (h : SHas B w x s hs) (hm : Mks (fun k => k = b) w w') (hc : Blk w b arr 35) : SHas B w' x s hs := ⟨h.q.mkt hm hc, h.p.mkt hm hc, h.k.mkt hm hc, h.m.mkt hm hc, h.c.mkt hm hc, h.cap⟩
theorem SHas.base {B B' : Nat} {w : World} {x : Sls} {s : St} {hs : List AV} (h : SHas B w x s hs) (hb : B' ≤ B) : SHas B' w x s hs := ⟨h.q.base hb, h.p.base hb, h.k.base hb, h.m.base hb, h.c.base hb, h.cap⟩
theorem SHas.ans {B : Nat} {w : World} {x : Sls} {s : St} {hs : List AV} (h : SHas B w x s hs) : SAns B w.heap.size w x s hs := sans_of h.q h.p h.k h.m h.c h.cap
theorem SAns.has {B E : Nat} {w : World} {x : Sls} {s : St} {hs : List AV} (h : SAns B E w x s hs) (hE : E ≤ w.heap.size) : SHas B w x s hs :=
  ⟨⟨h.row.1, h.q.mono (Nat.le_refl _) hE⟩, ⟨h.av, h.a.mono (Nat.le_refl _) hE⟩, ⟨h.heads, fun v hv => (h.asks v hv).mono (Nat.le_refl _) hE, h.apart⟩, ⟨h.row.2.2.1, h.m.mono (Nat.le_refl _) hE⟩, ⟨h.row.2.2.2, h.c.mono (Nat.le_refl _) hE⟩, h.cap⟩
/-- behind a call that takes out of the state in box b: the state that is left, and what is gone -/
def TkSt (B : Nat) (w : World) (b : Nat) (s : St) (hs : List AV) (gone : List Con) (e : Ending) (w' : World) : Prop :=
  ∃ y go gn gc, e = .returned (.slice go gn gc) ∧ Blk w' b (svc y s) 35 ∧ SHas B w' y s hs ∧ CHas w.heap.size w' go gn gone ∧ (∀ k, inR go gn k → ¬ inR y.ca y.cl k) ∧ Mks (fun k => k = b) w w'
theorem takeConts_st {B : Nat} (gf : Nat) (lb : Array Value) (eg : ∀ args w, (callFunc gf args).run Tryz.prog w = .ok (.enter gf args) w) (p : Con → Bool) (b : Nat) (x : Sls) (s : St) (hs : List AV) (w : World) (hk : Blk w b (svc x s) 35) (h : SHas B w x s hs) (hB : B ≤ w.heap.size) (hl : x.cl ≤ 1048576)
    (hp : ∀ wx q, q ∈ s.cs → Below w.heap.size w wx → Calls Tryz.prog gf (#[conv q] ++ lb) wx fun e w' => e = .returned (.bool (p q)) ∧ Below wx.heap.size wx w') :
    Calls Tryz.prog 36 #[.pointer (some ⟨b, 0, none⟩), .func (.func gf) #[] lb] w (TkSt B w b ⟨s.qs, s.clock, s.epoch, s.next, s.serial, s.apps, s.ms, s.cs.filter (fun q => !p q)⟩ hs (s.cs.filter p)) := by
  refine (takeConts_any gf lb eg p b x s w hk h.c.1 hl hp).mono ?_
  rintro e w' ⟨go, gn, gc, rfl, h1, h2, h3, hm⟩
  refine ⟨_, go, gn, gc, rfl, h1, ⟨h.q.mkt hm hk, h.p.mkt hm hk, h.k.mkt hm hk, h.m.mkt hm hk, h2.base hB, ⟨h.cap.q, h.cap.a, h.cap.m, Nat.le_refl _⟩⟩, h3.base (by omega), fun k hk1 hk2 => ?_, hm⟩
  obtain ⟨a1, _⟩ := h3.2.lies k hk1
  obtain ⟨_, o, e⟩ := hk2
  cases e
  omega

theorem cell_of_below {w wx : World} {k j : Nat} {v : Value} (h : w.cell? ⟨k, j, none⟩ = some v) (hb : Below w.heap.size w wx) : wx.cell? ⟨k, j, none⟩ = some v := cellBel h hb

set_option maxRecDepth 100000 in
set_option maxHeartbeats 1000000 in
theorem dropP_clo (k : Nat) (app : Int) (v : AV) (w : World) (h : w.cell? ⟨k, 0, none⟩ = some (.int .i64 app)) :
    Calls Tryz.prog 89 #[avv v, .pointer (some ⟨k, 0, none⟩)] w fun e w' => e = .returned (.bool (decide (v.id = app))) ∧ Below w.heap.size w w' := by
  obtain ⟨vi, vq, va, vl, vc⟩ := v
  have hks := cell_lt h
  have HB := hide (below_al (Below.refl _ w) (.cells #[.int .i64 vi, .string (bs vq), .slice va vl vc] 95))
  go_enter Tryz.func89, Tryz.ntmps89
  go_wp2
  go_ret
  exact ⟨rfl, unhide HB⟩
set_option maxRecDepth 100000 in
set_option maxHeartbeats 1000000 in
theorem dropC_clo (k : Nat) (app : Int) (q : Con) (w : World) (h : w.cell? ⟨k, 0, none⟩ = some (.int .i64 app)) :
    Calls Tryz.prog 90 #[conv q, .pointer (some ⟨k, 0, none⟩)] w fun e w' => e = .returned (.bool (decide (q.app = app))) ∧ Below w.heap.size w w' := by
  obtain ⟨id, ap, nd, me, cp⟩ := q
  have hks := cell_lt h
  have HB := hide (below_al (Below.refl _ w) (.cells #[.int .i64 id, .int .i64 ap, .string (bs nd), .int .i64 me, .int .i64 cp] 61))
  go_enter Tryz.func90, Tryz.ntmps90
  go_wp2
  go_ret
  exact ⟨rfl, unhide HB⟩
set_option maxRecDepth 100000 in
set_option maxHeartbeats 1000000 in
theorem loseM_clo (k : Nat) (nm : List UInt8) (q : Mac) (w : World) (h : w.cell? ⟨k, 0, none⟩ = some (.string (bs nm))) :
    Calls Tryz.prog 93 #[macv q, .pointer (some ⟨k, 0, none⟩)] w fun e w' => e = .returned (.bool (decide (q.name = nm))) ∧ Below w.heap.size w w' := by
  obtain ⟨nd, me, cp, se⟩ := q
  have hks := cell_lt h
  have hbe := bs_eq nd nm
  have HB := hide (below_al (Below.refl _ w) (.cells #[.string (bs nd), .int .i64 me, .int .i64 cp, .int .i64 se] 103))
  go_enter Tryz.func93, Tryz.ntmps93
  go_wp2
  go_ret
  exact ⟨rfl, unhide HB⟩
set_option maxRecDepth 100000 in
set_option maxHeartbeats 1000000 in
theorem loseC_clo (k : Nat) (nm : List UInt8) (q : Con) (w : World) (h : w.cell? ⟨k, 0, none⟩ = some (.string (bs nm))) :
    Calls Tryz.prog 94 #[conv q, .pointer (some ⟨k, 0, none⟩)] w fun e w' => e = .returned (.bool (decide (q.node = nm))) ∧ Below w.heap.size w w' := by
  obtain ⟨id, ap, nd, me, cp⟩ := q
  have hks := cell_lt h
  have hbe := bs_eq nd nm
  have HB := hide (below_al (Below.refl _ w) (.cells #[.int .i64 id, .int .i64 ap, .string (bs nd), .int .i64 me, .int .i64 cp] 61))
  go_enter Tryz.func94, Tryz.ntmps94
  go_wp2
  go_ret
  exact ⟨rfl, unhide HB⟩
end Go.Proofs.YtjjnmiajkjibeaaGreat

/-
  An application, a machine taken out of a state that is the caller's own, with its containers: what the program's drop and lose leave; walks over the dump.
-/
namespace Go.Proofs.YtjjnmiajkjibeaaGreat
open Go.RowKit
set_option linter.unusedVariables false

set_option maxRecDepth 100000 in
set_option maxHeartbeats 4000000 in
theorem drop_st {B : Nat} (app : Int) (b : Nat) (x : Sls) (s : St) (hs : List AV) (w : World) (hk : Blk w b (svc x s) 35) (h : SHas B w x s hs) (hB : B ≤ w.heap.size) (hl : x.cl ≤ 1048576) (hl2 : x.al ≤ 1048576) :
    Calls Tryz.prog 51 #[.pointer (some ⟨b, 0, none⟩), .int .i64 app] w (TkSt B w b ⟨s.qs, s.clock, s.epoch, s.next, s.serial, s.apps.filter (fun a => !decide (a.id = app)), s.ms, s.cs.filter (fun q => !decide (q.app = app))⟩ (hs.filter (fun v => !decide (v.id = app))) (s.cs.filter (fun q => decide (q.app = app)))) := by
  obtain ⟨qa, ql, qc, aa, al, ac, ma, ml, mc, ca, cl, cc⟩ := x
  obtain ⟨qs, clock, epoch, next, serial, apps, ms, cs⟩ := s
  simp only at *
  have hb0 := below_al (Below.refl _ w) (.cells #[.int .i64 app] 3)
  have HB0 := hide hb0
  have CT := hide (takingFromP_any aa al ac hs _ (h.p.1.below hb0) hl2)
  have HLN := hide ((h.p.1.below hb0)).1
  have HK := hide hk
  have HH := hide h
  have hbs := hk.lt
  have V0 := hide (show (w.alloc (.cells #[.int .i64 app] 3)).cell? ⟨w.heap.size, 0, none⟩ = some (.int .i64 app) from (blk_new w #[.int .i64 app] 3).at 0)
  have d5 := (hk.al (.cells #[.int .i64 app] 3)).at 5
  simp at d5
  have hsz0 := al_size w (.cells #[.int .i64 app] 3)
  rw [hsz0] at CT
  clear h hk hb0 hsz0
  go_enter Tryz.func51, Tryz.ntmps51
  go_wp2_with fail
  refine (unhide CT).mono ?_
  rintro e w1 ⟨rfl, ht, hs1, hb⟩
  have HB1 := hide (show Below (w.heap.size + 1) (w.alloc (.cells #[.int .i64 app] 3)) w1 from hb)
  have CA := hide (takeAllP_any 89 #[.pointer (some ⟨w.heap.size, 0, none⟩)] (enters_of Tryz.func89 (by kernel_rfl) rfl) (fun v => decide (v.id = app)) (w.heap.size + 1) (al * 3) hs [] w1 ht (by have := unhide HLN; simp; omega) (fun wx v hq hbx => dropP_clo w.heap.size app v wx ((((unhide HB1).trans hbx).cell (p := ⟨w.heap.size, 0, none⟩) (by simp)).trans (unhide V0))))
  clear ht hb CT
  go_wp2_with fail
  refine (unhide CA).mono ?_
  rintro e w2 ⟨rfl, ht, hb⟩
  have V2 := hide ((((unhide HB1).trans hb).cell (p := ⟨w.heap.size, 0, none⟩) (by simp)).trans (unhide V0))
  have HB2 := hide (show Below w.heap.size w w2 from (unhide HB0).trans (((unhide HB1).trans hb).mono (by omega)))
  have HST := hide (ht.stays (by have := unhide HLN; have := List.length_filter_le (fun v : AV => !decide (v.id = app)) hs; omega))
  obtain ⟨v, hbk, hly, how⟩ := ht
  have k0 := hbk.at 0
  obtain ⟨n1, hn1⟩ : ∃ n, (hs.filter (fun v => !decide (v.id = app))).length = n := ⟨_, rfl⟩
  rw [hn1] at k0
  simp at k0
  have K2 := hide (show Blk w2 b _ 35 from ((unhide HB2).block b hbs).trans (unhide HK))
  have e5 := (unhide K2).at 5
  have f5 := (unhide K2).f 5
  simp at e5
  have HN1 := hide hn1
  have hz2 : w.heap.size + 1 < w2.heap.size := hly.lt
  clear hbk hly how hb HB1 CA d5 hn1
  go_upto_region 4 with fail
  have hm : Mks (fun k => k = b) w2 (w2.setCell ⟨b, 5, none⟩ (.slice (some ⟨w.heap.size + 1, 0, none⟩) n1 n1)) := Mks.one _ _ _ _ _ rfl
  have K3 := hide (show Blk (w2.setCell ⟨b, 5, none⟩ (.slice (some ⟨w.heap.size + 1, 0, none⟩) n1 n1)) b #[.slice qa ql qc, .int .i64 clock, .int .i64 epoch, .int .i64 next, .int .i64 serial, .slice (some ⟨w.heap.size + 1, 0, none⟩) n1 n1, .slice ma ml mc, .slice ca cl cc] 35 from (unhide K2).set 5 _)
  have HM3 := hide (show Mks (fun k => k = b) w (w2.setCell ⟨b, 5, none⟩ (.slice (some ⟨w.heap.size + 1, 0, none⟩) n1 n1)) from mks_of (N := 0) (unhide HB2) (unhide HK) _ 5)
  have HH3 := hide (show SHas B (w2.setCell ⟨b, 5, none⟩ (.slice (some ⟨w.heap.size + 1, 0, none⟩) n1 n1)) ⟨qa, ql, qc, some ⟨w.heap.size + 1, 0, none⟩, n1, n1, ma, ml, mc, ca, cl, cc⟩ ⟨qs, clock, epoch, next, serial, apps.filter (fun a => !decide (a.id = app)), ms, cs⟩ (hs.filter (fun v => !decide (v.id = app))) from ⟨((unhide HH).q.below (unhide HB2)).mkt hm (unhide K2), by have := (unhide HST).mkt hm (unhide K2); rw [unhide HN1] at this; exact this.base (by omega), (((unhide HH).k.below (unhide HB2)).filter (fun i => !decide (i = app))).mkt hm (unhide K2), ((unhide HH).m.below (unhide HB2)).mkt hm (unhide K2), ((unhide HH).c.below (unhide HB2)).mkt hm (unhide K2), ⟨(unhide HH).cap.q, Nat.le_refl _, (unhide HH).cap.m, (unhide HH).cap.c⟩⟩)
  have V3 := hide ((World.cell?_setCell_other w2 ⟨b, 5, none⟩ ⟨w.heap.size, 0, none⟩ (.slice (some ⟨w.heap.size + 1, 0, none⟩) n1 n1) (by simp)).trans (unhide V2))
  have hz3 : w.heap.size + 1 < (w2.setCell ⟨b, 5, none⟩ (.slice (some ⟨w.heap.size + 1, 0, none⟩) n1 n1)).heap.size := by rw [set_size]; exact hz2
  generalize w2.setCell ⟨b, 5, none⟩ (.slice (some ⟨w.heap.size + 1, 0, none⟩) n1 n1) = w3 at K3 HM3 HH3 V3 hz3 ⊢
  have CC := hide (takeConts_st 90 #[.pointer (some ⟨w.heap.size, 0, none⟩)] (enters_of Tryz.func90 (by kernel_rfl) rfl) (fun q => decide (q.app = app)) b ⟨qa, ql, qc, some ⟨w.heap.size + 1, 0, none⟩, n1, n1, ma, ml, mc, ca, cl, cc⟩ ⟨qs, clock, epoch, next, serial, apps.filter (fun a => !decide (a.id = app)), ms, cs⟩ (hs.filter (fun v => !decide (v.id = app))) w3 (unhide K3) (unhide HH3) (by omega) hl (fun wx q hq hbx => dropC_clo w.heap.size app q wx (cellBel (unhide V3) hbx)))
  clear hm HST k0 K2 e5 f5 V2 HB2 hz2
  go_wp2_with fail
  refine (unhide CC).mono ?_
  rintro e w4 ⟨y, go, gn, gc, rfl, h1, h2, h3, h4, h5⟩
  have X1 := hide h1
  have X2 := hide h2
  have X3 := hide (h3.base (B' := w.heap.size) (by omega))
  have X4 := hide h4
  have X5 := hide ((unhide HM3).trans h5)
  clear h1 h2 h3 h4 h5 CC
  go_wp2
  go_ret
  exact ⟨y, go, gn, gc, rfl, unhide X1, unhide X2, unhide X3, unhide X4, unhide X5⟩

set_option maxRecDepth 100000 in
set_option maxHeartbeats 4000000 in
theorem lose_st {B : Nat} (nm : List UInt8) (b : Nat) (x : Sls) (s : St) (hs : List AV) (w : World) (hk : Blk w b (svc x s) 35) (h : SHas B w x s hs) (hB : B ≤ w.heap.size) (hl : x.cl ≤ 1048576) (hl2 : x.ml ≤ 1048576) :
    Calls Tryz.prog 53 #[.pointer (some ⟨b, 0, none⟩), .string (bs nm)] w (TkSt B w b ⟨s.qs, s.clock, s.epoch, s.next, s.serial, s.apps, s.ms.filter (fun v => !decide (v.name = nm)), s.cs.filter (fun q => !decide (q.node = nm))⟩ hs (s.cs.filter (fun q => decide (q.node = nm)))) := by
  obtain ⟨qa, ql, qc, aa, al, ac, ma, ml, mc, ca, cl, cc⟩ := x
  obtain ⟨qs, clock, epoch, next, serial, apps, ms, cs⟩ := s
  simp only at *
  have hb0 := below_al (Below.refl _ w) (.cells #[.string (bs nm)] 9)
  have HB0 := hide hb0
  have CT := hide (takingFromM_any ma ml mc ms _ (h.m.1.below hb0) hl2)
  have HLN := hide ((h.m.1.below hb0)).1
  have HK := hide hk
  have HH := hide h
  have hbs := hk.lt
  have V0 := hide (show (w.alloc (.cells #[.string (bs nm)] 9)).cell? ⟨w.heap.size, 0, none⟩ = some (.string (bs nm)) from (blk_new w #[.string (bs nm)] 9).at 0)
  have d5 := (hk.al (.cells #[.string (bs nm)] 9)).at 6
  simp at d5
  have hsz0 := al_size w (.cells #[.string (bs nm)] 9)
  rw [hsz0] at CT
  clear h hk hb0 hsz0
  go_enter Tryz.func53, Tryz.ntmps53
  go_wp2_with fail
  refine (unhide CT).mono ?_
  rintro e w1 ⟨rfl, ht, hs1, hb⟩
  have HB1 := hide (show Below (w.heap.size + 1) (w.alloc (.cells #[.string (bs nm)] 9)) w1 from hb)
  have CA := hide (takeAllM_any 93 #[.pointer (some ⟨w.heap.size, 0, none⟩)] (enters_of Tryz.func93 (by kernel_rfl) rfl) (fun v => decide (v.name = nm)) (w.heap.size + 1) (ml * 4) ms [] w1 ht (by have := unhide HLN; simp; omega) (fun wx v hq hbx => loseM_clo w.heap.size nm v wx ((((unhide HB1).trans hbx).cell (p := ⟨w.heap.size, 0, none⟩) (by simp)).trans (unhide V0))))
  clear ht hb CT
  go_wp2_with fail
  refine (unhide CA).mono ?_
  rintro e w2 ⟨rfl, ht, hb⟩
  have V2 := hide ((((unhide HB1).trans hb).cell (p := ⟨w.heap.size, 0, none⟩) (by simp)).trans (unhide V0))
  have HB2 := hide (show Below w.heap.size w w2 from (unhide HB0).trans (((unhide HB1).trans hb).mono (by omega)))
  have HST := hide (ht.stays (by have := unhide HLN; have := List.length_filter_le (fun v : Mac => !decide (v.name = nm)) ms; omega))
  obtain ⟨v, hbk, hly, how⟩ := ht
  have k0 := hbk.at 0
  obtain ⟨n1, hn1⟩ : ∃ n, (ms.filter (fun v => !decide (v.name = nm))).length = n := ⟨_, rfl⟩
  rw [hn1] at k0
  simp at k0
  have K2 := hide (show Blk w2 b _ 35 from ((unhide HB2).block b hbs).trans (unhide HK))
  have e5 := (unhide K2).at 6
  have f5 := (unhide K2).f 6
  simp at e5
  have HN1 := hide hn1
  have hz2 : w.heap.size + 1 < w2.heap.size := hly.lt
  clear hbk hly how hb HB1 CA d5 hn1
  go_upto_region 4 with fail
  have hm : Mks (fun k => k = b) w2 (w2.setCell ⟨b, 6, none⟩ (.slice (some ⟨w.heap.size + 1, 0, none⟩) n1 n1)) := Mks.one _ _ _ _ _ rfl
  have K3 := hide (show Blk (w2.setCell ⟨b, 6, none⟩ (.slice (some ⟨w.heap.size + 1, 0, none⟩) n1 n1)) b #[.slice qa ql qc, .int .i64 clock, .int .i64 epoch, .int .i64 next, .int .i64 serial, .slice aa al ac, .slice (some ⟨w.heap.size + 1, 0, none⟩) n1 n1, .slice ca cl cc] 35 from (unhide K2).set 6 _)
  have HM3 := hide (show Mks (fun k => k = b) w (w2.setCell ⟨b, 6, none⟩ (.slice (some ⟨w.heap.size + 1, 0, none⟩) n1 n1)) from mks_of (N := 0) (unhide HB2) (unhide HK) _ 6)
  have HH3 := hide (show SHas B (w2.setCell ⟨b, 6, none⟩ (.slice (some ⟨w.heap.size + 1, 0, none⟩) n1 n1)) ⟨qa, ql, qc, aa, al, ac, some ⟨w.heap.size + 1, 0, none⟩, n1, n1, ca, cl, cc⟩ ⟨qs, clock, epoch, next, serial, apps, ms.filter (fun v => !decide (v.name = nm)), cs⟩ hs from ⟨((unhide HH).q.below (unhide HB2)).mkt hm (unhide K2), ((unhide HH).p.below (unhide HB2)).mkt hm (unhide K2), ((unhide HH).k.below (unhide HB2)).mkt hm (unhide K2), by have := (unhide HST).mkt hm (unhide K2); rw [unhide HN1] at this; exact this.base (by omega), ((unhide HH).c.below (unhide HB2)).mkt hm (unhide K2), ⟨(unhide HH).cap.q, (unhide HH).cap.a, Nat.le_refl _, (unhide HH).cap.c⟩⟩)
  have V3 := hide ((World.cell?_setCell_other w2 ⟨b, 6, none⟩ ⟨w.heap.size, 0, none⟩ (.slice (some ⟨w.heap.size + 1, 0, none⟩) n1 n1) (by simp)).trans (unhide V2))
  have hz3 : w.heap.size + 1 < (w2.setCell ⟨b, 6, none⟩ (.slice (some ⟨w.heap.size + 1, 0, none⟩) n1 n1)).heap.size := by rw [set_size]; exact hz2
  generalize w2.setCell ⟨b, 6, none⟩ (.slice (some ⟨w.heap.size + 1, 0, none⟩) n1 n1) = w3 at K3 HM3 HH3 V3 hz3 ⊢
  have CC := hide (takeConts_st 94 #[.pointer (some ⟨w.heap.size, 0, none⟩)] (enters_of Tryz.func94 (by kernel_rfl) rfl) (fun q => decide (q.node = nm)) b ⟨qa, ql, qc, aa, al, ac, some ⟨w.heap.size + 1, 0, none⟩, n1, n1, ca, cl, cc⟩ ⟨qs, clock, epoch, next, serial, apps, ms.filter (fun v => !decide (v.name = nm)), cs⟩ hs w3 (unhide K3) (unhide HH3) (by omega) hl (fun wx q hq hbx => loseC_clo w.heap.size nm q wx (cellBel (unhide V3) hbx)))
  clear hm HST k0 K2 e5 f5 V2 HB2 hz2
  go_wp2_with fail
  refine (unhide CC).mono ?_
  rintro e w4 ⟨y, go, gn, gc, rfl, h1, h2, h3, h4, h5⟩
  have X1 := hide h1
  have X2 := hide h2
  have X3 := hide (h3.base (B' := w.heap.size) (by omega))
  have X4 := hide h4
  have X5 := hide ((unhide HM3).trans h5)
  clear h1 h2 h3 h4 h5 CC
  go_wp2
  go_ret
  exact ⟨y, go, gn, gc, rfl, unhide X1, unhide X2, unhide X3, unhide X4, unhide X5⟩
end Go.Proofs.YtjjnmiajkjibeaaGreat

/-
  Texts by their bytes are in one order.
-/
namespace Go.Proofs.YtjjnmiajkjibeaaGreat
open Go.RowKit
set_option linter.unusedVariables false

theorem bl_irr : ∀ a : List UInt8, Op.bytesLess a a = false
  | [] => rfl
  | c :: t => by simp [Op.bytesLess, bl_irr t]
theorem bl_trans : ∀ a b c : List UInt8, Op.bytesLess a b = true → Op.bytesLess b c = true → Op.bytesLess a c = true
  | _, [], _, h, _ => by simp [Op.bytesLess] at h
  | _, _ :: _, [], _, h => by simp [Op.bytesLess] at h
  | [], _ :: _, _ :: _, _, _ => by simp [Op.bytesLess]
  | x :: a, y :: b, z :: c, h, k => by
    simp only [Op.bytesLess, Bool.or_eq_true, Bool.and_eq_true, decide_eq_true_eq, beq_iff_eq] at h k ⊢
    rcases h with h | ⟨rfl, h⟩
    · rcases k with k | ⟨rfl, k⟩
      · exact .inl (UInt8.lt_trans h k)
      · exact .inl h
    · rcases k with k | ⟨rfl, k⟩
      · exact .inl k
      · exact .inr ⟨rfl, bl_trans a b c h k⟩
theorem bl_tri : ∀ a b : List UInt8, Op.bytesLess a b = false → a ≠ b → Op.bytesLess b a = true
  | [], [], _, h => absurd rfl h
  | [], _ :: _, h, _ => by simp [Op.bytesLess] at h
  | _ :: _, [], _, _ => by simp [Op.bytesLess]
  | x :: a, y :: b, h, k => by
    simp only [Op.bytesLess, Bool.or_eq_false_iff, Bool.and_eq_false_iff, decide_eq_false_iff_not, beq_eq_false_iff_ne] at h
    simp only [Op.bytesLess, Bool.or_eq_true, Bool.and_eq_true, decide_eq_true_eq, beq_iff_eq]
    by_cases hxy : x = y
    · subst hxy
      right
      refine ⟨rfl, bl_tri a b ?_ (fun e => k (by rw [e]))⟩
      rcases h.2 with h2 | h2
      · exact absurd rfl h2
      · exact h2
    · left
      have h1 := h.1
      have : x.toNat ≠ y.toNat := fun e => hxy (UInt8.toNat_inj.1 e)
      rw [UInt8.lt_iff_toNat_lt] at h1 ⊢
      omega
end Go.Proofs.YtjjnmiajkjibeaaGreat

/-
  Amounts in the program: numberOk, the methods ok and orNothing, two at once; walks over the dump.
-/
namespace Go.Proofs.YtjjnmiajkjibeaaGreat
open Go.RowKit
set_option linter.unusedVariables false

/-- two amounts at once -/
abbrev pv (a b c d : Int) : Value := .agg #[.int .i64 a, .int .i64 b, .int .i64 c, .int .i64 d]

set_option maxHeartbeats 400000 in
theorem numberOk_any (n : Int) (w : World) :
    Calls Tryz.prog 114 #[.int .i64 n] w fun e w' => e = .returned (.bool (inB n 0 1000000000)) ∧ w = w' := by
  by_cases h1 : 0 ≤ n
  · by_cases h2 : n ≤ 1000000000
    · go_enter Tryz.func114, Tryz.ntmps114
      go_wp2
      go_ret
      exact ⟨ret_bool (inB_true h1 h2).symm, rfl⟩
    · go_enter Tryz.func114, Tryz.ntmps114
      go_wp2
      go_ret
      exact ⟨ret_bool (inB_false (by omega)).symm, rfl⟩
  · go_enter Tryz.func114, Tryz.ntmps114
    go_wp2
    go_ret
    exact ⟨ret_bool (inB_false (by omega)).symm, rfl⟩

set_option maxRecDepth 100000 in
set_option maxHeartbeats 400000 in
theorem ok_any (a b : Int) (w : World) :
    Calls Tryz.prog 149 #[rv a b] w fun e w' => e = .returned (.bool (resOk a b)) ∧ w' = w.alloc (.cells #[.int .i64 a, .int .i64 b] 59) := by
  cases h1 : inB a 0 1000000000
  · go_enter Tryz.func149, Tryz.ntmps149
    go_wp2_with (go_at_call 114; refine (numberOk_any _ _).mono ?_; rintro e w' ⟨rfl, rfl⟩)
    go_ret
    exact ⟨ret_bool (by simp [resOk, h1]), rfl⟩
  · go_enter Tryz.func149, Tryz.ntmps149
    go_wp2_with (go_at_call 114; refine (numberOk_any _ _).mono ?_; rintro e w' ⟨rfl, rfl⟩)
    go_ret
    exact ⟨ret_bool (by simp [resOk, h1]), rfl⟩
theorem ok_bel (a b : Int) (w : World) :
    Calls Tryz.prog 149 #[rv a b] w fun e w' => e = .returned (.bool (resOk a b)) ∧ Below w.heap.size w w' :=
  (ok_any a b w).mono fun e w' h => ⟨h.1, by rw [h.2]; exact below_al (Below.refl _ _) _⟩
end Go.Proofs.YtjjnmiajkjibeaaGreat
