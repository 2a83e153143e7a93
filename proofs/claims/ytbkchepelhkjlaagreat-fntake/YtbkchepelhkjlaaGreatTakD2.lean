/-
 An application, a machine taken out of a state that is the caller's own, with its containers: what the program's drop and lose leave; walks over the dump.
-/
import Derived.Test.YtbkchepelhkjlaaGreatPackH
import Derived.Deep.CutBlock
import Derived.Deep.CutRange
namespace Go.Proofs.YtbkchepelhkjlaaGreat
open Go.RowKit
set_option linter.unusedVariables false
set_option maxRecDepth 100000 in
set_option maxHeartbeats 4000000 in
theorem drop_st {B : Nat} (app : Int) (b : Nat) (x : Sls) (s : St) (hs : List AV) (w : World) (hk : Blk w b (svc x s) 29) (h : SHas B w x s hs) (hB : B ≤ w.heap.size) (hl : x.cl ≤ 1048576) (hl2 : x.al ≤ 1048576) :
  Calls Tryz.prog 98 #[.pointer (some ⟨b, 0, none⟩), .int .i64 app] w (TkSt B w b ⟨s.qs, s.clock, s.epoch, s.next, s.serial, s.apps.filter (fun a => !decide (a.id = app)), s.ms, s.cs.filter (fun q => !decide (q.app = app))⟩ (hs.filter (fun v => !decide (v.id = app))) (s.cs.filter (fun q => decide (q.app = app)))) := by
 obtain ⟨qa, ql, qc, aa, al, ac, ma, ml, mc, ca, cl, cc⟩ := x
 obtain ⟨qs, clock, epoch, next, serial, apps, ms, cs⟩ := s
 simp only at *
 have hb0 := below_al (Below.refl _ w) (.cells #[.int .i64 app] 3)
 have HB0 := hide hb0
 have CT := hide (takingFromP_any aa al ac hs _ (h.p.1.below hb0) hl2)
 have HLN := hide ((h.p.1.below hb0)).1
 have HK := hide hk
 have HH := hide h
 have hbs := hk.lt
 have V0 := hide (show (w.alloc (.cells #[.int .i64 app] 3)).cell? ⟨w.heap.size, 0, none⟩ = some (.int .i64 app) from (blk_new w #[.int .i64 app] 3).at 0)
 have d5 := (hk.al (.cells #[.int .i64 app] 3)).at 5
 simp at d5
 have hsz0 := al_size w (.cells #[.int .i64 app] 3)
 rw [hsz0] at CT
 clear h hk hb0 hsz0
 go_enter Tryz.func98, Tryz.ntmps98
 go_wp2_with fail
 refine (unhide CT).mono ?_
 rintro e w1 ⟨rfl, ht, hs1, hb⟩
 have HB1 := hide (show Below (w.heap.size + 1) (w.alloc (.cells #[.int .i64 app] 3)) w1 from hb)
 have CA := hide (takeAllP_any 143 #[.pointer (some ⟨w.heap.size, 0, none⟩)] (enters_of Tryz.func143 (by kernel_rfl) rfl) (fun v => decide (v.id = app)) (w.heap.size + 1) (al * 3) hs [] w1 ht (by have := unhide HLN; simp; omega) (fun wx v hq hbx => dropP_clo w.heap.size app v wx ((((unhide HB1).trans hbx).cell (p := ⟨w.heap.size, 0, none⟩) (by simp)).trans (unhide V0))))
 clear ht hb CT
 go_wp2_with fail
 refine (unhide CA).mono ?_
 rintro e w2 ⟨rfl, ht, hb⟩
 have V2 := hide ((((unhide HB1).trans hb).cell (p := ⟨w.heap.size, 0, none⟩) (by simp)).trans (unhide V0))
 have HB2 := hide (show Below w.heap.size w w2 from (unhide HB0).trans (((unhide HB1).trans hb).mono (by omega)))
 have HST := hide (ht.stays (by have := unhide HLN; have := List.length_filter_le (fun v : AV => !decide (v.id = app)) hs; omega))
 obtain ⟨v, hbk, hly, how⟩ := ht
 have k0 := hbk.at 0
 obtain ⟨n1, hn1⟩ : ∃ n, (hs.filter (fun v => !decide (v.id = app))).length = n := ⟨_, rfl⟩
 rw [hn1] at k0
 simp at k0
 have K2 := hide (show Blk w2 b _ 29 from ((unhide HB2).block b hbs).trans (unhide HK))
 have e5 := (unhide K2).at 5
 have f5 := (unhide K2).f 5
 simp at e5
 have HN1 := hide hn1
 have hz2 : w.heap.size + 1 < w2.heap.size := hly.lt
 clear hbk hly how hb HB1 CA d5 hn1
 go_upto_region 4 with fail
 have hm : Mks (fun k => k = b) w2 (w2.setCell ⟨b, 5, none⟩ (.slice (some ⟨w.heap.size + 1, 0, none⟩) n1 n1)) := Mks.one _ _ _ _ _ rfl
 have K3 := hide (show Blk (w2.setCell ⟨b, 5, none⟩ (.slice (some ⟨w.heap.size + 1, 0, none⟩) n1 n1)) b #[.slice qa ql qc, .int .i64 clock, .int .i64 epoch, .int .i64 next, .int .i64 serial, .slice (some ⟨w.heap.size + 1, 0, none⟩) n1 n1, .slice ma ml mc, .slice ca cl cc] 29 from (unhide K2).set 5 _)
 have HM3 := hide (show Mks (fun k => k = b) w (w2.setCell ⟨b, 5, none⟩ (.slice (some ⟨w.heap.size + 1, 0, none⟩) n1 n1)) from mks_of (N := 0) (unhide HB2) (unhide HK) _ 5)
 have HH3 := hide (show SHas B (w2.setCell ⟨b, 5, none⟩ (.slice (some ⟨w.heap.size + 1, 0, none⟩) n1 n1)) ⟨qa, ql, qc, some ⟨w.heap.size + 1, 0, none⟩, n1, n1, ma, ml, mc, ca, cl, cc⟩ ⟨qs, clock, epoch, next, serial, apps.filter (fun a => !decide (a.id = app)), ms, cs⟩ (hs.filter (fun v => !decide (v.id = app))) from ⟨((unhide HH).q.below (unhide HB2)).mkt hm (unhide K2), by have := (unhide HST).mkt hm (unhide K2); rw [unhide HN1] at this; exact this.base (by omega), (((unhide HH).k.below (unhide HB2)).filter (fun i => !decide (i = app))).mkt hm (unhide K2), ((unhide HH).m.below (unhide HB2)).mkt hm (unhide K2), ((unhide HH).c.below (unhide HB2)).mkt hm (unhide K2), ⟨(unhide HH).cap.q, Nat.le_refl _, (unhide HH).cap.m, (unhide HH).cap.c⟩, (fun r => ⟨r.1, (by have := ((unhide HST).mkt hm (unhide K2)); rw [unhide HN1] at this; exact (this.base (B' := B) (by omega)).2), r.2.2.1, r.2.2.2.1, fun v hv => r.2.2.2.2 v (List.mem_filter.1 hv).1⟩) ((((unhide HH).rm.below (unhide HB2)).mks hm).mono (Nat.le_refl _) (Nat.le_trans (unhide HB2).size hm.size))⟩)
 have V3 := hide ((World.cell?_setCell_other w2 ⟨b, 5, none⟩ ⟨w.heap.size, 0, none⟩ (.slice (some ⟨w.heap.size + 1, 0, none⟩) n1 n1) (by simp)).trans (unhide V2))
 have hz3 : w.heap.size + 1 < (w2.setCell ⟨b, 5, none⟩ (.slice (some ⟨w.heap.size + 1, 0, none⟩) n1 n1)).heap.size := by rw [set_size]; exact hz2
 generalize w2.setCell ⟨b, 5, none⟩ (.slice (some ⟨w.heap.size + 1, 0, none⟩) n1 n1) = w3 at K3 HM3 HH3 V3 hz3 ⊢
 have CC := hide (takeConts_st 144 #[.pointer (some ⟨w.heap.size, 0, none⟩)] (enters_of Tryz.func144 (by kernel_rfl) rfl) (fun q => decide (q.app = app)) b ⟨qa, ql, qc, some ⟨w.heap.size + 1, 0, none⟩, n1, n1, ma, ml, mc, ca, cl, cc⟩ ⟨qs, clock, epoch, next, serial, apps.filter (fun a => !decide (a.id = app)), ms, cs⟩ (hs.filter (fun v => !decide (v.id = app))) w3 (unhide K3) (unhide HH3) (by omega) hl (fun wx q hq hbx => dropC_clo w.heap.size app q wx (cellBel (unhide V3) hbx)))
 clear hm HST k0 K2 e5 f5 V2 HB2 hz2
 go_wp2_with fail
 refine (unhide CC).mono ?_
 rintro e w4 ⟨y, go, gn, gc, rfl, h1, h2, h3, h4, h5⟩
 have X1 := hide h1
 have X2 := hide h2
 have X3 := hide (h3.base (B' := w.heap.size) (by omega))
 have X4 := hide h4
 have X5 := hide ((unhide HM3).trans h5)
 clear h1 h2 h3 h4 h5 CC
 go_wp2
 go_ret
 exact ⟨y, go, gn, gc, rfl, unhide X1, unhide X2, unhide X3, unhide X4, unhide X5⟩

set_option maxRecDepth 100000 in
set_option maxHeartbeats 4000000 in
theorem lose_st {B : Nat} (nm : List UInt8) (b : Nat) (x : Sls) (s : St) (hs : List AV) (w : World) (hk : Blk w b (svc x s) 29) (h : SHas B w x s hs) (hB : B ≤ w.heap.size) (hl : x.cl ≤ 1048576) (hl2 : x.ml ≤ 1048576) :
  Calls Tryz.prog 99 #[.pointer (some ⟨b, 0, none⟩), .string (bs nm)] w (TkSt B w b ⟨s.qs, s.clock, s.epoch, s.next, s.serial, s.apps, s.ms.filter (fun v => !decide (v.name = nm)), s.cs.filter (fun q => !decide (q.node = nm))⟩ hs (s.cs.filter (fun q => decide (q.node = nm)))) := by
 obtain ⟨qa, ql, qc, aa, al, ac, ma, ml, mc, ca, cl, cc⟩ := x
 obtain ⟨qs, clock, epoch, next, serial, apps, ms, cs⟩ := s
 simp only at *
 have hb0 := below_al (Below.refl _ w) (.cells #[.string (bs nm)] 9)
 have HB0 := hide hb0
 have CT := hide (takingFromM_any ma ml mc ms _ (h.m.1.below hb0) hl2)
 have HLN := hide ((h.m.1.below hb0)).1
 have HK := hide hk
 have HH := hide h
 have hbs := hk.lt
 have V0 := hide (show (w.alloc (.cells #[.string (bs nm)] 9)).cell? ⟨w.heap.size, 0, none⟩ = some (.string (bs nm)) from (blk_new w #[.string (bs nm)] 9).at 0)
 have d5 := (hk.al (.cells #[.string (bs nm)] 9)).at 6
 simp at d5
 have hsz0 := al_size w (.cells #[.string (bs nm)] 9)
 rw [hsz0] at CT
 clear h hk hb0 hsz0
 go_enter Tryz.func99, Tryz.ntmps99
 go_wp2_with fail
 refine (unhide CT).mono ?_
 rintro e w1 ⟨rfl, ht, hs1, hb⟩
 have HB1 := hide (show Below (w.heap.size + 1) (w.alloc (.cells #[.string (bs nm)] 9)) w1 from hb)
 have CA := hide (takeAllM_any 147 #[.pointer (some ⟨w.heap.size, 0, none⟩)] (enters_of Tryz.func147 (by kernel_rfl) rfl) (fun v => decide (v.name = nm)) (w.heap.size + 1) (ml * 4) ms [] w1 ht (by have := unhide HLN; simp; omega) (fun wx v hq hbx => loseM_clo w.heap.size nm v wx ((((unhide HB1).trans hbx).cell (p := ⟨w.heap.size, 0, none⟩) (by simp)).trans (unhide V0))))
 clear ht hb CT
 go_wp2_with fail
 refine (unhide CA).mono ?_
 rintro e w2 ⟨rfl, ht, hb⟩
 have V2 := hide ((((unhide HB1).trans hb).cell (p := ⟨w.heap.size, 0, none⟩) (by simp)).trans (unhide V0))
 have HB2 := hide (show Below w.heap.size w w2 from (unhide HB0).trans (((unhide HB1).trans hb).mono (by omega)))
 have HST := hide (ht.stays (by have := unhide HLN; have := List.length_filter_le (fun v : Mac => !decide (v.name = nm)) ms; omega))
 obtain ⟨v, hbk, hly, how⟩ := ht
 have k0 := hbk.at 0
 obtain ⟨n1, hn1⟩ : ∃ n, (ms.filter (fun v => !decide (v.name = nm))).length = n := ⟨_, rfl⟩
 rw [hn1] at k0
 simp at k0
 have K2 := hide (show Blk w2 b _ 29 from ((unhide HB2).block b hbs).trans (unhide HK))
 have e5 := (unhide K2).at 6
 have f5 := (unhide K2).f 6
 simp at e5
 have HN1 := hide hn1
 have hz2 : w.heap.size + 1 < w2.heap.size := hly.lt
 clear hbk hly how hb HB1 CA d5 hn1
 go_upto_region 4 with fail
 have hm : Mks (fun k => k = b) w2 (w2.setCell ⟨b, 6, none⟩ (.slice (some ⟨w.heap.size + 1, 0, none⟩) n1 n1)) := Mks.one _ _ _ _ _ rfl
 have K3 := hide (show Blk (w2.setCell ⟨b, 6, none⟩ (.slice (some ⟨w.heap.size + 1, 0, none⟩) n1 n1)) b #[.slice qa ql qc, .int .i64 clock, .int .i64 epoch, .int .i64 next, .int .i64 serial, .slice aa al ac, .slice (some ⟨w.heap.size + 1, 0, none⟩) n1 n1, .slice ca cl cc] 29 from (unhide K2).set 6 _)
 have HM3 := hide (show Mks (fun k => k = b) w (w2.setCell ⟨b, 6, none⟩ (.slice (some ⟨w.heap.size + 1, 0, none⟩) n1 n1)) from mks_of (N := 0) (unhide HB2) (unhide HK) _ 6)
 have HH3 := hide (show SHas B (w2.setCell ⟨b, 6, none⟩ (.slice (some ⟨w.heap.size + 1, 0, none⟩) n1 n1)) ⟨qa, ql, qc, aa, al, ac, some ⟨w.heap.size + 1, 0, none⟩, n1, n1, ca, cl, cc⟩ ⟨qs, clock, epoch, next, serial, apps, ms.filter (fun v => !decide (v.name = nm)), cs⟩ hs from ⟨((unhide HH).q.below (unhide HB2)).mkt hm (unhide K2), ((unhide HH).p.below (unhide HB2)).mkt hm (unhide K2), ((unhide HH).k.below (unhide HB2)).mkt hm (unhide K2), by have := (unhide HST).mkt hm (unhide K2); rw [unhide HN1] at this; exact this.base (by omega), ((unhide HH).c.below (unhide HB2)).mkt hm (unhide K2), ⟨(unhide HH).cap.q, (unhide HH).cap.a, Nat.le_refl _, (unhide HH).cap.c⟩, (fun r => ⟨r.1, r.2.1, (by have := ((unhide HST).mkt hm (unhide K2)); rw [unhide HN1] at this; exact (this.base (B' := B) (by omega)).2), r.2.2.2.1, r.2.2.2.2⟩) ((((unhide HH).rm.below (unhide HB2)).mks hm).mono (Nat.le_refl _) (Nat.le_trans (unhide HB2).size hm.size))⟩)
 have V3 := hide ((World.cell?_setCell_other w2 ⟨b, 6, none⟩ ⟨w.heap.size, 0, none⟩ (.slice (some ⟨w.heap.size + 1, 0, none⟩) n1 n1) (by simp)).trans (unhide V2))
 have hz3 : w.heap.size + 1 < (w2.setCell ⟨b, 6, none⟩ (.slice (some ⟨w.heap.size + 1, 0, none⟩) n1 n1)).heap.size := by rw [set_size]; exact hz2
 generalize w2.setCell ⟨b, 6, none⟩ (.slice (some ⟨w.heap.size + 1, 0, none⟩) n1 n1) = w3 at K3 HM3 HH3 V3 hz3 ⊢
 have CC := hide (takeConts_st 148 #[.pointer (some ⟨w.heap.size, 0, none⟩)] (enters_of Tryz.func148 (by kernel_rfl) rfl) (fun q => decide (q.node = nm)) b ⟨qa, ql, qc, aa, al, ac, some ⟨w.heap.size + 1, 0, none⟩, n1, n1, ca, cl, cc⟩ ⟨qs, clock, epoch, next, serial, apps, ms.filter (fun v => !decide (v.name = nm)), cs⟩ hs w3 (unhide K3) (unhide HH3) (by omega) hl (fun wx q hq hbx => loseC_clo w.heap.size nm q wx (cellBel (unhide V3) hbx)))
 clear hm HST k0 K2 e5 f5 V2 HB2 hz2
 go_wp2_with fail
 refine (unhide CC).mono ?_
 rintro e w4 ⟨y, go, gn, gc, rfl, h1, h2, h3, h4, h5⟩
 have X1 := hide h1
 have X2 := hide h2
 have X3 := hide (h3.base (B' := w.heap.size) (by omega))
 have X4 := hide h4
 have X5 := hide ((unhide HM3).trans h5)
 clear h1 h2 h3 h4 h5 CC
 go_wp2
 go_ret
 exact ⟨y, go, gn, gc, rfl, unhide X1, unhide X2, unhide X3, unhide X4, unhide X5⟩
end Go.Proofs.YtbkchepelhkjlaaGreat
