/-
  Several texts of this claim in one: DrC, RightS, In, Res, BothM, Both (pack.py put them together); each says in its own remark what is proved.
-/
import Derived.Test.YtcplnodfcchdhaaGreatPackJ
import Derived.Test.YtcplnodfcchdhaaGreatPackH
import Derived.Test.YtcplnodfcchdhaaGreatPackI
import Derived.Test.YtcplnodfcchdhaaGreatPackA
/-
  What stands while a state is drawn: the cursor, the state's box, the box of the answer, the names; how small what is drawn is.
-/
namespace Go.Proofs.YtcplnodfcchdhaaGreat
open Go.RowKit
set_option linter.unusedVariables false
theorem xno {b : Bool} {p : Prop} (h : b = true) : b = false → p := fun e => by rw [h] at e; cases e
theorem bs_bk (s : ByteArray) : bs s.data.toList = s := by simp [bs]
theorem blk_rw {w : World} {b : Nat} {old : Array Value} {t : TypeId} (h : Blk w b old t) (arr : Array Value) : Blk (w.setRow b arr) b arr t := setRow_heap w b old arr t (0, 0) h
theorem mks_rw {w : World} {b : Nat} {old : Array Value} {t : TypeId} (h : Blk w b old t) (arr : Array Value) (hs : arr.size = old.size) : Mks (fun k => k = b) w (w.setRow b arr) := by
  refine ⟨rfl, rfl, rfl, by rw [setRow_size]; exact Nat.le_refl _, fun k _ hk => setRow_other w b k arr hk, fun t' g N hc => ?_⟩
  by_cases e : g = b
  · subst e
    obtain ⟨c, h1, h2⟩ := hc
    rw [h] at h1
    cases h1
    exact ⟨arr, blk_rw h arr, by omega⟩
  · exact hc.of_block (setRow_other w b g arr e)
abbrev zero8 : Array Value := #[.slice none 0 0, .int .i64 0, .int .i64 0, .int .i64 0, .int .i64 0, .slice none 0 0, .slice none 0 0, .slice none 0 0]
abbrev names3 : Array Value := #[.string ⟨#[109, 49]⟩, .string ⟨#[109, 50]⟩, .string ⟨#[109, 51]⟩]
theorem names_at (k : Nat) (hk : k < 3) : ∃ nm : List UInt8, nm.length = 2 ∧ names3[k]? = some (.string (bs nm)) := by
  match k, hk with
  | 0, _ => exact ⟨[109, 49], rfl, rfl⟩
  | 1, _ => exact ⟨[109, 50], rfl, rfl⟩
  | 2, _ => exact ⟨[109, 51], rfl, rfl⟩
structure DSt (w : World) (B g : Nat) (ao : Option Addr) (len cap : Nat) (b q : Nat) (arr : Array Value) (wr : World) : Prop where
  c : CSt w B g ao len cap wr
  gl : g < w.heap.size
  x : Blk wr b arr 29
  bl : w.heap.size < b
  r : Blk wr w.heap.size zero8 29
  n : Blk wr q names3 9
  ql : w.heap.size < q
section
variable {w wr wy : World} {B g : Nat} {ao : Option Addr} {len cap : Nat} {b q : Nat} {arr : Array Value}
theorem DSt.below (h : DSt w B g ao len cap b q arr wr) (hb : Below wr.heap.size wr wy) : DSt w B g ao len cap b q arr wy := ⟨h.c.below hb, h.gl, h.x.below hb, h.bl, h.r.below hb, h.n.below hb, h.ql⟩
theorem DSt.mks {S : Nat → Prop} (h : DSt w B g ao len cap b q arr wr) (hm : Mks S wr wy) (hS : ∀ k, S k → w.heap.size ≤ k ∧ ∃ t N, Cel wr t k N ∧ t ≠ 29 ∧ t ≠ 9) : DSt w B g ao len cap b q arr wy := by
  have hx : ∀ {k : Nat} {a : Array Value}, Blk wr k a 29 → ¬ S k := fun hk e => let ⟨_, t, N, h1, h2, _⟩ := hS _ e; h2 (h1.type ⟨_, hk, rfl⟩)
  have hy : ∀ {k : Nat} {a : Array Value}, Blk wr k a 9 → ¬ S k := fun hk e => let ⟨_, t, N, h1, _, h2⟩ := hS _ e; h2 (h1.type ⟨_, hk, rfl⟩)
  exact ⟨h.c.mks hm (fun k e => ⟨(hS k e).1, Nat.lt_of_lt_of_le h.gl (hS k e).1⟩), h.gl, hm.blk h.x (hx h.x), h.bl, hm.blk h.r (hx h.r), hm.blk h.n (hy h.n), h.ql⟩
theorem DSt.cur (h : DSt w B g ao len cap b q arr wr) (hc : CSt w B g ao len cap wy) (hg : wr.grownBy wy (some g)) : DSt w B g ao len cap b q arr wy := by
  have hm := cur_mks h.c.1 hc.1 hg
  have h1 := h.gl; have h2 := h.bl; have h3 := h.ql
  exact ⟨hc, h.gl, hm.blk h.x (by omega), h.bl, hm.blk h.r (by omega), hm.blk h.n (by omega), h.ql⟩
theorem DSt.off (h : DSt w B g ao len cap b q arr wr) (hc : CSt w B g ao len cap wy) (hg : wr.grownBy wy (some g)) {x : Sls} {s : St} {hs : List AV} (H : SHas w.heap.size wr x s hs) : SHas w.heap.size wy x s hs :=
  H.off (cur_mks h.c.1 hc.1 hg) (off_low h.gl)
theorem DSt.set (h : DSt w B g ao len cap b q arr wr) (j : Nat) (v : Value) : DSt w B g ao len cap b q (arr.setIfInBounds j v) (wr.setCell ⟨b, j, none⟩ v) := by
  have hm : Mks (fun k => k = b) wr (wr.setCell ⟨b, j, none⟩ v) := Mks.one _ wr b j v rfl
  have h1 := h.gl; have h2 := h.bl
  exact ⟨h.c.mks hm (fun k e => by subst e; omega), h.gl, h.x.set j v, h.bl, hm.blk h.r (by omega), hm.blk h.n (fun e => by
    have hx := h.x
    have hn := h.n
    unfold Blk at hx hn
    rw [e, hx] at hn
    cases hn), h.ql⟩
theorem DSt.setH (h : DSt w B g ao len cap b q arr wr) (j : Nat) (v : Value) {x : Sls} {s : St} {hs : List AV} (H : SHas w.heap.size wr x s hs) : SHas w.heap.size (wr.setCell ⟨b, j, none⟩ v) x s hs :=
  H.off (Mks.one (fun k => k = b) wr b j v rfl) (off_blk h.x (by decide) (by decide) (by decide) (by decide) (by decide))
end
/-- the same, and the state's lists lie below E -/
structure DS (w : World) (B g : Nat) (ao : Option Addr) (len cap : Nat) (b q : Nat) (arr : Array Value) (E : Nat) (y : Sls) (s : St) (hs : List AV) (wx : World) : Prop where
  d : DSt w B g ao len cap b q arr wx
  a : SAns w.heap.size E wx y s hs
  e : E ≤ wx.heap.size
  l : w.heap.size ≤ E
section
variable {w wx wy : World} {B g : Nat} {ao : Option Addr} {len cap : Nat} {b q : Nat} {arr : Array Value} {E : Nat} {y : Sls} {s : St} {hs : List AV}
theorem DS.new (h : DSt w B g ao len cap b q arr wx) (H : SHas w.heap.size wx y s hs) : DS w B g ao len cap b q arr wx.heap.size y s hs wx := ⟨h, H.ans, Nat.le_refl _, h.c.2.2.1.size⟩
theorem DS.below (h : DS w B g ao len cap b q arr E y s hs wx) (hb : Below wx.heap.size wx wy) : DS w B g ao len cap b q arr E y s hs wy := ⟨h.d.below hb, h.a.below hb, Nat.le_trans h.e hb.size, h.l⟩
theorem DS.drew (h : DS w B g ao len cap b q arr E y s hs wx) : DS w B g ao len cap b q arr E y s hs wx.drew := h.below (Below.refl _ _).drew
theorem DS.al (h : DS w B g ao len cap b q arr E y s hs wx) (o : Obj) : DS w B g ao len cap b q arr E y s hs (wx.alloc o) := h.below (below_al (Below.refl _ _) o)
theorem DS.cur (h : DS w B g ao len cap b q arr E y s hs wx) (hc : Cur wy g ao len cap) (hg : wx.grownBy wy (some g)) : DS w B g ao len cap b q arr E y s hs wy :=
  ⟨h.d.cur (h.d.c.step hc hg) hg, h.a.mks (cur_mks h.d.c.1 hc hg) (fun k e => .inl (by have := h.d.gl; omega)), Nat.le_trans h.e hg.size, h.l⟩
theorem DS.out {S : Nat → Prop} (h : DS w B g ao len cap b q arr E y s hs wx) (hm : Mks S wx wy) (hS : ∀ k, S k → E ≤ k ∧ ∃ t N, Cel wx t k N ∧ t ≠ 29 ∧ t ≠ 9) : DS w B g ao len cap b q arr E y s hs wy :=
  ⟨h.d.mks hm (fun k e => ⟨Nat.le_trans h.l (hS k e).1, (hS k e).2⟩), h.a.mks hm (fun k e => .inr (hS k e).1), Nat.le_trans h.e hm.size, h.l⟩
end
/-- the same, and an application's variable with its asks, which lie at E or behind it -/
structure AS (w : World) (B g : Nat) (ao : Option Addr) (len cap : Nat) (b q : Nat) (arr : Array Value) (E : Nat) (y : Sls) (s : St) (hs : List AV) (ba : Nat) (aa : Array Value) (ko : Option Addr) (j kc : Nat) (ak : List Ask) (wx : World) : Prop where
  s : DS w B g ao len cap b q arr E y s hs wx
  x : Blk wx ba aa 41
  l : E ≤ ba
  r : AskRow wx ko j ak
  o : Own1 E wx.heap.size wx 96 5 ko kc
  c : j ≤ kc
section
variable {w wx wy : World} {B g : Nat} {ao : Option Addr} {len cap : Nat} {b q : Nat} {arr : Array Value} {E : Nat} {y : Sls} {s : St} {hs : List AV} {ba : Nat} {aa : Array Value} {ko : Option Addr} {j kc : Nat} {ak : List Ask}
theorem AS.below (h : AS w B g ao len cap b q arr E y s hs ba aa ko j kc ak wx) (hb : Below wx.heap.size wx wy) : AS w B g ao len cap b q arr E y s hs ba aa ko j kc ak wy := ⟨h.s.below hb, h.x.below hb, h.l, h.r.below hb, h.o.grow hb (Nat.le_refl _), h.c⟩
theorem AS.al (h : AS w B g ao len cap b q arr E y s hs ba aa ko j kc ak wx) (o : Obj) : AS w B g ao len cap b q arr E y s hs ba aa ko j kc ak (wx.alloc o) := h.below (below_al (Below.refl _ _) o)
theorem AS.drew (h : AS w B g ao len cap b q arr E y s hs ba aa ko j kc ak wx) : AS w B g ao len cap b q arr E y s hs ba aa ko j kc ak wx.drew := h.below (Below.refl _ _).drew
theorem AS.cur (h : AS w B g ao len cap b q arr E y s hs ba aa ko j kc ak wx) (hc : Cur wy g ao len cap) (hg : wx.grownBy wy (some g)) : AS w B g ao len cap b q arr E y s hs ba aa ko j kc ak wy := by
  have hm := cur_mks h.s.d.c.1 hc hg
  have h1 := h.s.d.gl; have h2 := h.s.l; have h3 := h.l
  have ho : Off E wx 96 (fun k => k = g) := fun k e => .inl (by omega)
  exact ⟨h.s.cur hc hg, hm.blk h.x (by omega), h.l, h.r.mks hm (own_off (h.o.le h.c) hm ho).1, (own_off h.o hm ho).2, h.c⟩
theorem AS.set (h : AS w B g ao len cap b q arr E y s hs ba aa ko j kc ak wx) (i : Nat) (v : Value) : AS w B g ao len cap b q arr E y s hs ba (aa.setIfInBounds i v) ko j kc ak (wx.setCell ⟨ba, i, none⟩ v) := by
  have hm : Mks (fun k => k = ba) wx (wx.setCell ⟨ba, i, none⟩ v) := Mks.one _ wx ba i v rfl
  have ho : Off E wx 96 (fun k => k = ba) := fun k e => .inr ⟨41, aa.size, by subst e; exact ⟨_, h.x, rfl⟩, by decide⟩
  exact ⟨h.s.out hm (fun k e => by subst e; exact ⟨h.l, _, _, ⟨_, h.x, rfl⟩, by decide, by decide⟩), h.x.set i v, h.l, h.r.mks hm (own_off (h.o.le h.c) hm ho).1, (own_off h.o hm ho).2, h.c⟩
theorem AS.app {g4 cp : Nat} (h : AS w B g ao len cap b q arr E y s hs ba aa ko j kc ak wx) (m : Ask) (ha : AppR E wx 96 5 ko (j + 1) (acells ak ++ acell m) g4 cp wy) : AS w B g ao len cap b q arr E y s hs ba aa (some ⟨g4, 0, none⟩) (j + 1) cp (ak ++ [m]) wy :=
  ⟨h.s.out ha.mks (fun k ⟨N, hc, hB⟩ => ⟨hB, _, N, hc, by decide, by decide⟩), ha.mks.blk h.x (fun ⟨N, hc, _⟩ => absurd (hc.type ⟨_, h.x, rfl⟩) (by decide)), h.l, ask_add h.r.1 m ha, ha.own, ha.cap⟩
end
theorem PickT.below {w w' : World} {q L : Nat} (h : PickT w q L) (hb : Below w.heap.size w w') : PickT w' q L := ⟨Nat.lt_of_lt_of_le h.1 hb.size, fun j hj => let ⟨s, h1, h2⟩ := h.2 j hj; ⟨s, cellBel h1 hb, h2⟩⟩
theorem PickT.cur {w w' : World} {q L g : Nat} (h : PickT w q L) (hg : w.grownBy w' (some g)) (hn : g ≠ q) : PickT w' q L := ⟨Nat.lt_of_lt_of_le h.1 hg.size, fun j hj => by
  obtain ⟨s, h1, h2⟩ := h.2 j hj
  refine ⟨s, ?_, h2⟩
  rw [← h1]
  simp only [World.cell?, hg.block q h.1 (fun e => hn (Option.some.inj e).symm)]⟩
/-- how small what is drawn is -/
structure SmS (s : St) (a m c : Nat) : Prop where
  q : s.qs.length ≤ 1000 ∧ ∀ q ∈ s.qs, q.name.length ≤ 1000 ∧ q.parent.length ≤ 1000
  al : s.apps.length ≤ a
  ml : s.ms.length ≤ m
  cl : s.cs.length ≤ c
  ap : ∀ x ∈ s.apps, x.queue.length ≤ 12 ∧ x.asks.length ≤ 3 ∧ (∀ k ∈ x.asks, k.node.length ≤ 12) ∧ 0 ≤ x.id ∧ x.id ≤ 100000
  mn : ∀ x ∈ s.ms, x.name.length ≤ 12
  cn : ∀ x ∈ s.cs, x.node.length ≤ 12 ∧ 0 ≤ x.app ∧ x.app ≤ 100000
  nx : 0 ≤ s.next ∧ s.next ≤ 1001 + a
  se : 0 ≤ s.serial ∧ s.serial ≤ 1 + c
theorem SmS.fit {s : St} {a m c : Nat} (h : SmS s a m c) (ha : a ≤ 1000) (hm : m ≤ 1000) (hc : c ≤ 1000) : FitSt s := by
  have h1 := h.q.1; have h2 := h.al; have h3 := h.ml; have h4 := h.cl
  refine ⟨⟨by omega, fun q hq => ?_⟩, ⟨by omega, fun x hx => ?_⟩, ⟨by omega, fun x hx => ?_⟩, ⟨by omega, fun x hx => ?_⟩⟩
  · have := h.q.2 q hq; omega
  · obtain ⟨k1, k2, k3, _⟩ := h.ap x hx
    exact ⟨by omega, by omega, fun y hy => by have := k3 y hy; omega⟩
  · have := h.mn x hx; omega
  · have := h.cn x hx; omega
theorem SmS.wf {s : St} {a m c : Nat} (h : SmS s a m c) : WfSt s :=
  ⟨fun x hx => by have := h.ap x hx; exact wf_small (by omega) (by omega), fun x hx => by have := h.cn x hx; exact wf_small (by omega) (by omega)⟩
theorem SmS.addM {s : St} {a m c : Nat} (h : SmS s a m c) (x : Mac) (hx : x.name.length ≤ 12) : SmS ⟨s.qs, s.clock, s.epoch, s.next, s.serial, s.apps, s.ms ++ [x], s.cs⟩ a (m + 1) c :=
  ⟨h.q, h.al, by have := h.ml; simp; omega, h.cl, h.ap, fun y hy => by rcases List.mem_append.1 hy with hy | hy; exact h.mn y hy; simp at hy; subst hy; exact hx, h.cn, h.nx, h.se⟩
theorem SmS.addA {s : St} {a m c : Nat} (h : SmS s a m c) (x : Appl) (nx : Int) (ha : a ≤ 1000) (h1 : x.queue.length ≤ 12) (h2 : x.asks.length ≤ 3) (h3 : ∀ k ∈ x.asks, k.node.length ≤ 12) (h4 : x.id = s.next) (h5 : nx = s.next + 1) : SmS ⟨s.qs, s.clock, s.epoch, nx, s.serial, s.apps ++ [x], s.ms, s.cs⟩ (a + 1) m c := by
  have hn := h.nx
  refine ⟨h.q, by have := h.al; simp; omega, h.ml, h.cl, fun y hy => ?_, h.mn, h.cn, ⟨by show 0 ≤ nx; omega, by show nx ≤ _; omega⟩, h.se⟩
  rcases List.mem_append.1 hy with hy | hy
  · exact h.ap y hy
  · simp at hy
    subst hy
    exact ⟨h1, h2, h3, by omega, by omega⟩
theorem SmS.next {s : St} {a m c : Nat} (h : SmS s a m c) (cs : List Con) (hl : cs.length ≤ c + 1) (hx : ∀ x ∈ cs, x.node.length ≤ 12 ∧ 0 ≤ x.app ∧ x.app ≤ 100000) : SmS ⟨s.qs, s.clock, s.epoch, s.next, s.serial + 1, s.apps, s.ms, cs⟩ a m (c + 1) :=
  ⟨h.q, h.al, h.ml, hl, h.ap, h.mn, hx, h.nx, by have := h.se; show 0 ≤ s.serial + 1 ∧ s.serial + 1 ≤ _; omega⟩
theorem SmS.mono {s : St} {a m c a' m' c' : Nat} (h : SmS s a m c) (ha : a ≤ a') (hm : m ≤ m') (hc : c ≤ c') : SmS s a' m' c' := by
  have h1 := h.al; have h2 := h.ml; have h3 := h.cl; have h4 := h.nx; have h5 := h.se
  exact ⟨h.q, by omega, by omega, by omega, h.ap, h.mn, h.cn, by omega, by omega⟩
end Go.Proofs.YtcplnodfcchdhaaGreat

/-
  Queues that are drawn: l03Right, l03Queues; walks over the dump.
-/
namespace Go.Proofs.YtcplnodfcchdhaaGreat
open Go.RowKit
set_option linter.unusedVariables false
theorem CSt.rebase {w0 w : World} {B g : Nat} {ao : Option Addr} {len cap : Nat} (h : CSt w0 B g ao len cap w) : CSt w B g ao len cap w := ⟨h.1, h.2.1, grownBy_refl w _, h.2.2.2⟩
/-- three queues, of which two have drawn points -/
def three (a b c d : Int) : List Q := [⟨[114, 111, 111, 116], [], 10000, 10000⟩, ⟨[97], [114, 111, 111, 116], a, b⟩, ⟨[98], [114, 111, 111, 116], c, d⟩]
theorem three_brief (a b c d : Int) : Brief (three a b c d) := fun q hq => by
  simp [three] at hq
  rcases hq with rfl | rfl | rfl <;> simp

set_option maxRecDepth 100000 in
set_option maxHeartbeats 4000000 in
theorem right_st {w0 : World} {B g : Nat} {ao : Option Addr} {len cap : Nat} (w : World) (h : CSt w0 B g ao len cap w) :
    Calls Tryz.prog 90 #[.pointer (some ⟨g, 0, none⟩)] w fun e w' => ∃ v ls, e = .returned v ∧ Hid (QDr w.heap.size w' v ls) ∧ 3 ≤ ls.length ∧ ls.length ≤ 5 ∧ Hid (Brief ls) ∧ Hid (CSt w0 B g ao len cap w') := by
  obtain ⟨i0, hi, hz0, hz1, hz2⟩ := info_parts Tryz.infoQD
  have HS := hide h
  have hgl := h.1.lt
  have hw0 := h.2.2.1.size
  clear h
  have hq1 := hide (ints_alloc w 3 [5000, 3000, 0, 6000] (by decide))
  go_enter Tryz.func90, Tryz.ntmps90
  go_wp2_with fail
  refine (pick_st w.heap.size 4 4 _ ((unhide HS).alloc _).rebase (unhide hq1) (by omega) (by decide) (by decide)).mono ?_
  rintro e w1 ⟨x1, rfl, _, _, hs1⟩
  have HS1 := hide (((unhide HS).alloc _).step hs1.1 hs1.2.2.1)
  have hz1' : w.heap.size + 1 ≤ w1.heap.size := by have := hs1.2.2.1.size; rwa [World.size_alloc] at this
  have hq2 := hide (ints_alloc w1 3 [8000, 10000, 6000] (by decide))
  clear hs1 hq1 HS
  go_wp2_with fail
  refine (pick_st w1.heap.size 3 3 _ ((unhide HS1).alloc _).rebase (unhide hq2) (by omega) (by decide) (by decide)).mono ?_
  rintro e w2 ⟨x2, rfl, _, _, hs2⟩
  have HS2 := hide (((unhide HS1).alloc _).step hs2.1 hs2.2.2.1)
  have hz2' : w1.heap.size + 1 ≤ w2.heap.size := by have := hs2.2.2.1.size; rwa [World.size_alloc] at this
  have hq3 := hide (ints_alloc w2 3 [4000, 2000, 0] (by decide))
  clear hs2 hq2 HS1
  go_wp2_with fail
  refine (pick_st w2.heap.size 3 3 _ ((unhide HS2).alloc _).rebase (unhide hq3) (by omega) (by decide) (by decide)).mono ?_
  rintro e w3 ⟨x3, rfl, _, _, hs3⟩
  have HS3 := hide (((unhide HS2).alloc _).step hs3.1 hs3.2.2.1)
  have hz3' : w2.heap.size + 1 ≤ w3.heap.size := by have := hs3.2.2.1.size; rwa [World.size_alloc] at this
  have hq4 := hide (ints_alloc w3 3 [10000, 5000] (by decide))
  clear hs3 hq3 HS2
  go_wp2_with fail
  refine (pick_st w3.heap.size 2 2 _ ((unhide HS3).alloc _).rebase (unhide hq4) (by omega) (by decide) (by decide)).mono ?_
  rintro e w4 ⟨x4, rfl, _, _, hs4⟩
  have HS4 := hide ((((unhide HS3).alloc _).step hs4.1 hs4.2.2.1).alloc (.cells (dcells (three x1 x2 x3 x4)).toArray 59))
  have hz4' : w3.heap.size + 1 ≤ w4.heap.size := by have := hs4.2.2.1.size; rwa [World.size_alloc] at this
  have HQ4 := hide (qdr_lit w4 (three x1 x2 x3 x4) 3 rfl (by decide))
  have HBR := hide (three_brief x1 x2 x3 x4)
  have HLN := hide (show (three x1 x2 x3 x4).length = 3 from rfl)
  clear hs4 hq4 HS3
  go_wp2_with fail
  refine (once_st 2 _ (unhide HS4).rebase (by decide) (by decide)).mono ?_
  rintro e w5 ⟨x, rfl, hs5⟩
  have HS5 := hide ((unhide HS4).step hs5.1 hs5.2.2.1)
  have HQ5 := hide ((unhide HQ4).kept hs5.2.2.1 (fun k e => by cases e; omega))
  have hz5' : w4.heap.size + 1 ≤ w5.heap.size := by have := hs5.2.2.1.size; rwa [World.size_alloc] at this
  clear hs5 HS4 HQ4
  cases x with
  | false =>
    go_wp2
    go_ret
    exact ⟨_, three x1 x2 x3 x4, rfl, hide ⟨(unhide HQ5).1, by rcases (unhide HQ5).2 with h | ⟨a, b, c, h1, h2, h3⟩; exact .inl h; exact .inr ⟨a, b, c, h1, by omega, h3⟩⟩, by rw [unhide HLN]; omega, by rw [unhide HLN]; omega, HBR, HS5⟩
  | true =>
    have hq6 := hide (ints_alloc w5 3 [5000, 1000] (by decide))
    go_wp2_with fail
    refine (pick_st w5.heap.size 2 2 _ ((unhide HS5).alloc _).rebase (unhide hq6) (by omega) (by decide) (by decide)).mono ?_
    rintro e w6 ⟨x6, rfl, _, _, hs6⟩
    have HS6 := hide (((unhide HS5).alloc _).step hs6.1 hs6.2.2.1)
    have HQ6 := hide (((unhide HQ5).below (below_al (Below.refl _ _) _)).kept hs6.2.2.1 (fun k e => by cases e; omega))
    have hz6' : w5.heap.size + 1 ≤ w6.heap.size := by have := hs6.2.2.1.size; rwa [World.size_alloc] at this
    have hown : w6.ownsRow w4.heap.size 59 4 _ 3 (dcells (three x1 x2 x3 x4)) := unhide HQ6
    have hs2 : w4.heap.size ≤ w6.heap.size := by omega
    clear hs6 hq6 HS5 HQ5
    go_wp2_with (at_builtin; refine wpList_append_own _ rfl _ _ 24 rfl w4.heap.size 59 i0 (.agg #[.string ByteArray.empty, .string ByteArray.empty, .int .i64 0, .int .i64 0]) 4 48 Tryz.underlying24 hi hz0 hz1 hz2 rfl (by decide) _ _ _ rfl (hown.alloc _) ⟨w6.heap.size, 0, none⟩ 2 2 (dcells [⟨[98, 49], [98], 5000, 10000⟩, ⟨[98, 50], [98], x6, 9000⟩]) rfl rfl ?c1 ?c2 ?c3 ?c4 ?c5 ?_)
    case c1 =>
      intro j x hj
      have hj8 : j < 8 := by have := (List.getElem?_eq_some_iff.1 hj).1; simpa [dcells] using this
      match j, hj8, hj with
      | 0, _, hj => simp [dcells] at hj; subst hj; simp [Addr.add]; rfl
      | 1, _, hj => simp [dcells] at hj; subst hj; simp [Addr.add]; rfl
      | 2, _, hj => simp [dcells] at hj; subst hj; simp [Addr.add]
      | 3, _, hj => simp [dcells] at hj; subst hj; simp [Addr.add]
      | 4, _, hj => simp [dcells] at hj; subst hj; simp [Addr.add]; rfl
      | 5, _, hj => simp [dcells] at hj; subst hj; simp [Addr.add]; rfl
      | 6, _, hj => simp [dcells] at hj; subst hj; simp [Addr.add]
      | 7, _, hj => simp [dcells] at hj; subst hj; simp [Addr.add]
    case c2 => intro x hx; simp [dcells] at hx; rcases hx with rfl | rfl | rfl | rfl | rfl | rfl | rfl | rfl <;> rfl
    case c3 => unfold maxLen; omega
    case c4 => omega
    case c5 => simp at hs2 ⊢; omega
    intro v' w7 hown' hgrow _
    have HQ7 := hide (show QDr w4.heap.size w7 v' (three x1 x2 x3 x4 ++ [⟨[98, 49], [98], 5000, 10000⟩, ⟨[98, 50], [98], x6, 9000⟩]) by unfold QDr; rw [dcells_app]; exact hown')
    have HS7 := hide (((unhide HS6).alloc _).gro hgrow (fun k hk => by
      rcases (unhide HQ6).2 with ⟨e, _⟩ | ⟨q, _, _, e, hq, _⟩
      · rw [e] at hk; simp [Value.ownBlock] at hk
      · rw [e] at hk; simp [Value.ownBlock] at hk; omega))
    clear hown' hgrow hown
    go_wp2
    go_ret
    refine ⟨_, three x1 x2 x3 x4 ++ [⟨[98, 49], [98], 5000, 10000⟩, ⟨[98, 50], [98], x6, 9000⟩], rfl, hide ⟨(unhide HQ7).1, by rcases (unhide HQ7).2 with h | ⟨a, b, c, h1, h2, h3⟩; exact .inl h; exact .inr ⟨a, b, c, h1, by omega, h3⟩⟩, by simp [unhide HLN], by simp [unhide HLN], hide ?_, HS7⟩
    intro q hq
    rcases List.mem_append.1 hq with hq | hq
    · exact unhide HBR q hq
    · simp at hq
      rcases hq with rfl | rfl <;> simp
end Go.Proofs.YtcplnodfcchdhaaGreat

/-
  What the model's l01In answers: whether a number lies between two.
-/
namespace Go.Proofs.YtcplnodfcchdhaaGreat
open Go.RowKit
set_option maxHeartbeats 400000 in
theorem l01In_any (x a b : Int) (w : World) :
    Calls Tryz.prog 66 #[.int .i64 x, .int .i64 a, .int .i64 b] w fun e w' => e = .returned (.bool (inB x a b)) ∧ w = w' := by
  by_cases h1 : a ≤ x
  · by_cases h2 : x ≤ b
    · go_enter Tryz.func66, Tryz.ntmps66
      go_wp2
      go_ret
      exact ⟨ret_bool (inB_true h1 h2).symm, rfl⟩
    · go_enter Tryz.func66, Tryz.ntmps66
      go_wp2
      go_ret
      exact ⟨ret_bool (inB_false (by omega)).symm, rfl⟩
  · go_enter Tryz.func66, Tryz.ntmps66
    go_wp2
    go_ret
    exact ⟨ret_bool (inB_false (by omega)).symm, rfl⟩
end Go.Proofs.YtcplnodfcchdhaaGreat

/-
  What the model's ResOk answers; a walk over the dump.
-/
namespace Go.Proofs.YtcplnodfcchdhaaGreat
open Go.RowKit
set_option linter.unusedVariables false
set_option maxRecDepth 100000 in
set_option maxHeartbeats 400000 in
theorem specResOk_any (a b : Int) (w : World) :
    Calls Tryz.prog 100 #[rv a b] w fun e w' => e = .returned (.bool (resOk a b)) ∧ w' = w.alloc (.cells #[.int .i64 a, .int .i64 b] 33) := by
  cases h1 : inB a 0 1000000000
  · go_enter Tryz.func100, Tryz.ntmps100
    go_wp2_with (go_at_call 66; refine (l01In_any _ _ _ _).mono ?_; rintro e w' ⟨rfl, rfl⟩)
    go_ret
    exact ⟨ret_bool (by simp [resOk, h1]), rfl⟩
  · go_enter Tryz.func100, Tryz.ntmps100
    go_wp2_with (go_at_call 66; refine (l01In_any _ _ _ _).mono ?_; rintro e w' ⟨rfl, rfl⟩)
    go_ret
    exact ⟨ret_bool (by simp [resOk, h1]), rfl⟩
theorem specResOk_bel (a b : Int) (w : World) :
    Calls Tryz.prog 100 #[rv a b] w fun e w' => e = .returned (.bool (resOk a b)) ∧ Below w.heap.size w w' :=
  (specResOk_any a b w).mono fun e w' h => ⟨h.1, by rw [h.2]; exact below_al (Below.refl _ _) _⟩
end Go.Proofs.YtcplnodfcchdhaaGreat

/-
  Two amounts together, or one less the other: in plain words.
-/
namespace Go.Proofs.YtcplnodfcchdhaaGreat
open Go.RowKit
/-- a and b together, or a less b -/
def bothOk (s a b c d : Int) : Bool := resOk a b && resOk c d && resOk (a + s * c) (b + s * d)
def bothV (s a b c d : Int) : Value := if bothOk s a b c d then rv (a + s * c) (b + s * d) else rv 0 0
theorem both_no {s a b c d : Int} (h : bothOk s a b c d = false) : bothV s a b c d = rv 0 0 := by simp [bothV, h]
theorem both_yes {s a b c d : Int} (h : bothOk s a b c d = true) : bothV s a b c d = rv (a + s * c) (b + s * d) := by simp [bothV, h]
end Go.Proofs.YtcplnodfcchdhaaGreat

/-
  Two amounts together, or one less the other: what the model's l02Both answers; a walk over the dump.
-/
namespace Go.Proofs.YtcplnodfcchdhaaGreat
open Go.RowKit
set_option linter.unusedVariables false
set_option maxRecDepth 100000 in
set_option maxHeartbeats 1000000 in
theorem l02Both_any (a b c d s : Int) (w : World) (hs : s = 1 ∨ s = -1) :
    Calls Tryz.prog 94 #[rv a b, rv c d, .int .i64 s] w fun e w' => e = .returned (.tuple #[bothV s a b c d, .bool (bothOk s a b c d)]) ∧ Below w.heap.size w w' := by
  cases h1 : resOk a b
  · have hb : bothOk s a b c d = false := by simp [bothOk, h1]
    rw [both_no hb, hb]
    go_enter Tryz.func94, Tryz.ntmps94
    go_wp2_with (go_at_call 100; refine (specResOk_any _ _ _).mono ?_; rintro e w' ⟨rfl, rfl⟩)
    refine bodyPost_ret (v := .tuple #[rv 0 0, .bool false]) (by simp [results, Tryz.results94, go_sem]) rfl ⟨rfl, ?_⟩
    repeat (first | exact Below.refl _ _ | refine below_al ?_ _ | refine below_sc ?_ _ _ _ (by omega))
  · cases h2 : resOk c d
    · have hb : bothOk s a b c d = false := by simp [bothOk, h2]
      rw [both_no hb, hb]
      go_enter Tryz.func94, Tryz.ntmps94
      go_wp2_with (go_at_call 100; refine (specResOk_any _ _ _).mono ?_; rintro e w' ⟨rfl, rfl⟩)
      refine bodyPost_ret (v := .tuple #[rv 0 0, .bool false]) (by simp [results, Tryz.results94, go_sem]) rfl ⟨rfl, ?_⟩
      repeat (first | exact Below.refl _ _ | refine below_al ?_ _ | refine below_sc ?_ _ _ _ (by omega))
    · obtain ⟨q1, q2, q3, q4⟩ := resOk_bd h1
      obtain ⟨q5, q6, q7, q8⟩ := resOk_bd h2
      have m1 : IntKind.i64.wrap (s * c) = s * c := by rw [IntKind.wrap_i64]; rcases hs with rfl | rfl <;> omega
      have m2 : IntKind.i64.wrap (s * d) = s * d := by rw [IntKind.wrap_i64]; rcases hs with rfl | rfl <;> omega
      have m3 : IntKind.i64.wrap (a + s * c) = a + s * c := by rw [IntKind.wrap_i64]; rcases hs with rfl | rfl <;> omega
      have m4 : IntKind.i64.wrap (b + s * d) = b + s * d := by rw [IntKind.wrap_i64]; rcases hs with rfl | rfl <;> omega
      cases h3 : resOk (a + s * c) (b + s * d)
      · have hb : bothOk s a b c d = false := by simp [bothOk, h3]
        rw [both_no hb, hb]
        go_enter Tryz.func94, Tryz.ntmps94
        go_wp2_with (go_at_call 100; refine (specResOk_any _ _ _).mono ?_; rintro e w' ⟨rfl, rfl⟩)
        refine bodyPost_ret (v := .tuple #[rv 0 0, .bool false]) (by simp [results, Tryz.results94, go_sem]) rfl ⟨rfl, ?_⟩
        repeat (first | exact Below.refl _ _ | refine below_al ?_ _ | refine below_sc ?_ _ _ _ (by omega))
      · have hb : bothOk s a b c d = true := by simp [bothOk, h1, h2, h3]
        rw [both_yes hb, hb]
        go_enter Tryz.func94, Tryz.ntmps94
        go_wp2_with (go_at_call 100; refine (specResOk_any _ _ _).mono ?_; rintro e w' ⟨rfl, rfl⟩)
        refine bodyPost_ret (v := .tuple #[rv (a + s * c) (b + s * d), .bool true]) (by simp [results, Tryz.results94, go_sem]) rfl ⟨rfl, ?_⟩
        repeat (first | exact Below.refl _ _ | refine below_al ?_ _ | refine below_sc ?_ _ _ _ (by omega))
end Go.Proofs.YtcplnodfcchdhaaGreat
