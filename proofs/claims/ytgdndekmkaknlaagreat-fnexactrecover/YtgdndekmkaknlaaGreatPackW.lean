/-
  Several texts of this claim in one: RcvC, ReadG, RcvD (pack.py put them together); each says in its own remark what is proved.
-/
import Derived.Test.YtgdndekmkaknlaaGreatPackQ
import Derived.Test.YtgdndekmkaknlaaGreatPackR
import Derived.Test.YtgdndekmkaknlaaGreatPackV
import Derived.Deep.CutBlock
import Derived.Deep.CutRange
import Derived.Deep.QuietTactic
import Derived.BigQuiet
import Derived.Deep.RegionWith
/-
  What a log's records tell: stateBy and Recover of the program, Recover of the model; walks over the dump.
-/
namespace Go.Proofs.YtgdndekmkaknlaaGreat
open Go.RowKit
set_option linter.unusedVariables false
set_option linter.unusedSimpArgs false
/-- what is answered: what the log tells, or nothing where the queues are not right -/
def recSt (l : List Q) (rs : List Rc) : St := if queuesOk l = true then recV l rs else ⟨[], 0, 0, 0, 0, [], [], []⟩
def RecAns (w : World) (l : List Q) (rs : List Rc) (e : Ending) (w' : World) : Prop := ∃ y hs, e = .returned (.tuple #[sv y (recSt l rs), .bool (queuesOk l)]) ∧ SHas w.heap.size w' y (recSt l rs) hs ∧ Below w.heap.size w w'
theorem new_has {B n c : Nat} {w : World} {qo : Option Addr} {l : List Q} (ep nx se : Int) (h : QOwn B w (.slice qo n c) l) (hn : n = l.length) : SHas B w (newX qo n c) (newSt l ep nx se) [] := by
  obtain ⟨ao, cap, e, hc, hh⟩ := QOwn.has h
  cases e
  exact ⟨hh, ⟨⟨rfl, .inl rfl⟩, .inl rfl⟩, KHas.nil _ _, ⟨⟨rfl, .inl rfl⟩, .inl rfl⟩, ⟨⟨rfl, .inl rfl⟩, .inl rfl⟩, ⟨hc, Nat.le_refl _, Nat.le_refl _, Nat.le_refl _⟩, own1_of h, .inl rfl, .inl rfl, .inl rfl, fun v hv => absurd hv (by simp)⟩
theorem zero_has (B : Nat) (w : World) : SHas B w ⟨none, 0, 0, none, 0, 0, none, 0, 0, none, 0, 0⟩ ⟨[], 0, 0, 0, 0, [], [], []⟩ [] :=
  ⟨⟨⟨rfl, .inl rfl⟩, .inl rfl⟩, ⟨⟨rfl, .inl rfl⟩, .inl rfl⟩, KHas.nil _ _, ⟨⟨rfl, .inl rfl⟩, .inl rfl⟩, ⟨⟨rfl, .inl rfl⟩, .inl rfl⟩, ⟨Nat.le_refl _, Nat.le_refl _, Nat.le_refl _, Nat.le_refl _⟩, .inl rfl, .inl rfl, .inl rfl, .inl rfl, fun v hv => absurd hv (by simp)⟩
theorem StIn.below {B b : Nat} {w w1 w2 : World} {s : St} (h : StIn B b w s w1) (hb : Below w1.heap.size w1 w2) (hB : B ≤ w1.heap.size) : StIn B b w s w2 := let ⟨y, hs, h1, h2, h3⟩ := h; ⟨y, hs, h1.below hb, h2.below hb, h3.trans (hb.mono hB)⟩

set_option maxRecDepth 100000 in
set_option maxHeartbeats 4000000 in
theorem implStateBy_any (ao : Option Addr) (len cap : Nat) (l : List Q) (jo : Option Addr) (jl jc : Nat) (rs : List Rc) (w : World) (h : QRow w ao len l) (hl : len ≤ 1048576) (hf : FitQ l) (hc : len ≤ cap) (hj : RcRow w jo jl rs) (hjl : jl ≤ 1048576) :
    Calls Tryz.prog 19 #[.slice ao len cap, .slice jo jl jc] w (RecAns w l rs) := by
  have CN := hide (fun wx (hb : Below w.heap.size w wx) => implStateNew_any ao len cap l wx (h.below hb) hl hf (fun qo n c wy hr hc => by have := implStateOk_any (newX qo n c) (newSt l 1 1001 1) wy (new_row 1 1001 1 hr) (new_fit 1 1001 1 hf) hc ⟨by simp, by simp⟩; rw [new_ok] at this; exact this) hc)
  have HB0 := hide (below_al (Below.refl _ w) (.cells #[.slice none 0 0, .int .i64 0, .int .i64 0, .int .i64 0, .int .i64 0, .slice none 0 0, .slice none 0 0, .slice none 0 0] 29))
  have P0 := hide (blk_new w #[.slice none 0 0, .int .i64 0, .int .i64 0, .int .i64 0, .int .i64 0, .slice none 0 0, .slice none 0 0, .slice none 0 0] 29)
  have RJ := hide hj
  have HJL := hide hj.1
  have CR := hide (fun (b : Nat) (k : Nat) (w0 wx : World) (hs : StIn (w.heap.size + 1) b w0 (recV l (rs.take k)) wx) (hb : w.heap.size + 1 ≤ b) (hk : k < rs.length) => by
    have := recall_st l b (recV l (rs.take k)) rs[k] w0 wx hs hb (rinv_rec hf _) hf
    rw [← recV_take hk] at this
    exact this)
  clear h hj
  go_enter Tryz.func19, Tryz.ntmps19
  go_wp2_with fail
  refine (unhide CN _ (unhide HB0)).mono ?_
  rintro e w1 ⟨hb, hcase⟩
  have HB1 := hide (below_on (unhide HB0) hb)
  have P1 := hide ((unhide P0).below hb)
  have hz1 : w.heap.size + 1 ≤ w1.heap.size := (unhide P1).lt
  clear hb P0 HB0 CN
  rcases hcase with ⟨hq, rfl⟩ | ⟨hq, v, rfl, hown⟩
  · have hS : recSt l rs = ⟨[], 0, 0, 0, 0, [], [], []⟩ := by rw [recSt, if_neg (by simp [hq])]
    have HS := hide hS
    have HQ := hide hq
    have b2 := below_al (Below.refl _ w1) (.cells #[.slice none 0 0, .int .i64 0, .int .i64 0, .int .i64 0, .int .i64 0, .slice none 0 0, .slice none 0 0, .slice none 0 0] 29)
    have P2 := hide ((unhide P1).below b2)
    have HB2 := hide (below_on (unhide HB1) b2)
    have hz2 := b2.size
    clear hS hq b2 P1
    go_upto_region 3 with fail
    generalize w1.alloc (.cells #[.slice none 0 0, .int .i64 0, .int .i64 0, .int .i64 0, .int .i64 0, .slice none 0 0, .slice none 0 0, .slice none 0 0] 29) = w2 at P2 HB2 hz2 ⊢
    refine wp_region_lit ?_
    refine wpList_same (v := .agg #[.slice none 0 0, .int .i64 0, .int .i64 0, .int .i64 0, .int .i64 0, .slice none 0 0, .slice none 0 0, .slice none 0 0]) (d := some 17) rfl rfl (by refine run_v ?_; simp only [List.map_toArray, List.map_nil]; kernel_rfl) ?_
    simp only [Act.put, List.setIfInBounds_toArray, List.set_cons_zero, List.set_cons_succ]
    refine wpList_none (d := none) rfl rfl (run_u (st_store (unhide P2) rfl rfl (by kernel_rfl))) ?_
    simp only [Act.put]
    have RR := hide (blk_row (unhide P2) #[.slice none 0 0, .int .i64 0, .int .i64 0, .int .i64 0, .int .i64 0, .slice none 0 0, .slice none 0 0, .slice none 0 0])
    have MM := hide (mks_row (unhide P2) #[.slice none 0 0, .int .i64 0, .int .i64 0, .int .i64 0, .int .i64 0, .slice none 0 0, .slice none 0 0, .slice none 0 0] rfl)
    generalize World.setRow w2 w.heap.size #[.slice none 0 0, .int .i64 0, .int .i64 0, .int .i64 0, .int .i64 0, .slice none 0 0, .slice none 0 0, .slice none 0 0] = W9 at RR MM ⊢
    have B9 := hide ((unhide HB2).trans ((unhide MM).below (fun k e => by rw [e]; exact Nat.le_refl _) (by omega)))
    have z0 := (unhide RR).at 0; have z1 := (unhide RR).at 1; have z2 := (unhide RR).at 2; have z3 := (unhide RR).at 3; have z4 := (unhide RR).at 4; have z5 := (unhide RR).at 5; have z6 := (unhide RR).at 6; have z7 := (unhide RR).at 7
    simp at z0 z1 z2 z3 z4 z5 z6 z7
    go_wp2
    refine bodyPost_ret (v := .tuple #[.agg #[.slice none 0 0, .int .i64 0, .int .i64 0, .int .i64 0, .int .i64 0, .slice none 0 0, .slice none 0 0, .slice none 0 0], .bool false]) (by simp [results, Tryz.results19, go_sem, z0, z1, z2, z3, z4, z5, z6, z7]) rfl ?_
    unfold RecAns
    rw [unhide HS, unhide HQ]
    exact ⟨⟨none, 0, 0, none, 0, 0, none, 0, 0, none, 0, 0⟩, [], rfl, zero_has _ _, unhide B9⟩
  have hS : recSt l rs = recV l rs := by rw [recSt, if_pos hq]
  have HS := hide hS
  have HQ := hide hq
  obtain ⟨qo, qd, rfl, _, hqd, _⟩ := qown_rowx hown
  have b2 := below_al (Below.refl _ w1) (.cells (svc (newX qo l.length qd) (newSt l 1 1001 1)) 29)
  rw [al_size] at hown
  have ST2 := hide (show StIn (w.heap.size + 1) w1.heap.size w1 (recV l (rs.take 0)) (w1.alloc (.cells (svc (newX qo l.length qd) (newSt l 1 1001 1)) 29)) from ⟨newX qo l.length qd, [], blk_new w1 _ _, ((new_has 1 1001 1 hown rfl).base (by omega)).below b2, b2.mono hz1⟩)
  obtain ⟨b6, hb6⟩ : ∃ b, w1.heap.size = b := ⟨_, rfl⟩
  rw [hb6] at ST2 hz1
  clear hS hq b2 hown hqd
  go_upto_region 4 with fail
  generalize w1.alloc (.cells (svc (newX qo l.length qd) (newSt l 1 1001 1)) 29) = w2 at ST2 ⊢
  have HB6 := hide hb6
  clear hb6
  go_wp2
  go_loopw [20] (fun i wr => ∃ k : Nat, k ≤ jl ∧ i = .int .i64 k ∧ Hid (StIn (w.heap.size + 1) b6 w1 (recV l (rs.take k)) wr)) (fun i _ => jl - (intOf i).toNat)
  case atStart => exact ⟨0, Nat.zero_le _, rfl, ST2⟩
  case round =>
    clear ST2
    obtain ⟨k, hk, rfl, HST⟩ := hrel
    have hst := unhide HST
    obtain ⟨y, hs, hk6, hh6, hb6⟩ := hst
    have hzr : b6 < wr.heap.size := hk6.lt
    have HB := hide (show Below w.heap.size w wr from (unhide HB1).trans (hb6.mono (by omega)))
    by_cases hlt : k < jl
    · have hkl : k < rs.length := by have := unhide HJL; omega
      obtain ⟨b', off, rfl, hat⟩ := ((unhide RJ).below (unhide HB)).at hlt
      obtain ⟨c0, c1, c2⟩ := hat hkl
      have CR' := hide (unhide CR b6 k)
      obtain ⟨⟨rk, ra, rq⟩, hr⟩ : ∃ r, rs[k] = r := ⟨_, rfl⟩
      have CK := hide (fun w0 wx hs => by have := unhide CR' w0 wx hs hz1 hkl; rw [hr] at this; exact this)
      rw [hr] at c0 c1 c2
      simp only at c0 c1 c2
      have k0 : (0 : Int) ≤ k := by omega
      have k1 : (k : Int) < jl := by omega
      have b3 := below_al (Below.refl _ wr) (.cells #[.int .i64 rk, .int .i64 ra, .string (bs rq)] 47)
      have ST3 := hide ((unhide HST).below b3 (by omega))
      clear hat hr CR' b3 HST HB hk6 hh6 hb6
      go_wp2_with fail
      refine (unhide CK _ _ (unhide ST3)).mono ?_
      rintro e w4 ⟨rfl, h4, hz4⟩
      have ST4 := hide h4
      clear h4 ST3
      go_wp2
      go_roundw
      case rel => exact ⟨k + 1, by omega, by go_num, ST4⟩
      case measure => simp [intOf]; omega
    · obtain rfl : k = jl := by omega
      have hall : rs.take k = rs := List.take_of_length_le (by have := unhide HJL; omega)
      have P9 := hide (show Blk wr w.heap.size #[.slice none 0 0, .int .i64 0, .int .i64 0, .int .i64 0, .int .i64 0, .slice none 0 0, .slice none 0 0, .slice none 0 0] 29 from (hb6.block _ (by omega)).trans (unhide P1))
      have hST : recV l (rs.take k) = recSt l rs := by rw [hall, unhide HS]
      rw [hST] at hk6 hh6
      obtain ⟨S1, hS1⟩ : ∃ s, recSt l rs = s := ⟨_, rfl⟩
      rw [hS1] at hk6 hh6
      have HS1 := hide hS1
      obtain ⟨yqa, yql, yqc, yaa, yal, yac, yma, yml, ymc, yca, ycl, ycc⟩ := y
      obtain ⟨sqs, sck, sep, snx, sse, sap, sms, scs⟩ := S1
      have K6 := hide hk6
      have H6 := hide (hh6.base (B' := w.heap.size) (by omega))
      clear hb6 HST hST hall hS1 hk6 hh6 CR
      go_upto_region 9 with fail
      refine wp_region_lit ?_
      refine wpList_same (v := .agg #[.slice yqa yql yqc, .int .i64 sck, .int .i64 sep, .int .i64 snx, .int .i64 sse, .slice yaa yal yac, .slice yma yml ymc, .slice yca ycl ycc]) (d := some 27) rfl rfl (run_v (st_load (unhide K6) rfl)) ?_
      simp only [Act.put, List.setIfInBounds_toArray, List.set_cons_zero, List.set_cons_succ]
      refine wpList_none (d := none) rfl rfl (run_u (st_store (unhide P9) rfl rfl (by kernel_rfl))) ?_
      simp only [Act.put]
      have RR := hide (blk_row (unhide P9) #[.slice yqa yql yqc, .int .i64 sck, .int .i64 sep, .int .i64 snx, .int .i64 sse, .slice yaa yal yac, .slice yma yml ymc, .slice yca ycl ycc])
      have MM := hide (mks_row (unhide P9) #[.slice yqa yql yqc, .int .i64 sck, .int .i64 sep, .int .i64 snx, .int .i64 sse, .slice yaa yal yac, .slice yma yml ymc, .slice yca ycl ycc] rfl)
      generalize World.setRow wr (w.heap.size) #[.slice yqa yql yqc, .int .i64 sck, .int .i64 sep, .int .i64 snx, .int .i64 sse, .slice yaa yal yac, .slice yma yml ymc, .slice yca ycl ycc] = W9 at RR MM ⊢
      have H9 := hide ((unhide H6).mkt (unhide MM) (unhide P9))
      have B9 := hide ((unhide HB).trans ((unhide MM).below (fun k e => by rw [e]; omega) (by omega)))

      have z0 := (unhide RR).at 0; have z1 := (unhide RR).at 1; have z2 := (unhide RR).at 2; have z3 := (unhide RR).at 3; have z4 := (unhide RR).at 4; have z5 := (unhide RR).at 5; have z6 := (unhide RR).at 6; have z7 := (unhide RR).at 7
      simp at z0 z1 z2 z3 z4 z5 z6 z7
      go_wp2
      refine bodyPost_ret (v := .tuple #[.agg #[.slice yqa yql yqc, .int .i64 sck, .int .i64 sep, .int .i64 snx, .int .i64 sse, .slice yaa yal yac, .slice yma yml ymc, .slice yca ycl ycc], .bool true]) (by simp [results, Tryz.results19, go_sem, z0, z1, z2, z3, z4, z5, z6, z7]) rfl ?_
      exact (show RecAns w l rs _ _ from by unfold RecAns; rw [unhide HS1, unhide HQ]; exact ⟨⟨yqa, yql, yqc, yaa, yal, yac, yma, yml, ymc, yca, ycl, ycc⟩, hs, rfl, unhide H9, unhide B9⟩)

set_option maxRecDepth 100000 in
set_option maxHeartbeats 4000000 in
theorem implRecover_any (ao : Option Addr) (len cap : Nat) (l : List Q) (log : ByteArray) (w : World) (h : QRow w ao len l) (hl : len ≤ 1048576) (hf : FitQ l) (hc : len ≤ cap) (hs : log.size ≤ 1048576) (hrl : (readV log).1.length ≤ 60000) :
    Calls Tryz.prog 7 #[.slice ao len cap, .string log] w (RecAns w l (readV log).1) := by
  have CR := hide (fun wx => implRead_any log wx hs)
  have CB := hide (fun wx (jo : Option Addr) (jl jc : Nat) (hb : Below w.heap.size w wx) (hj : RcRow wx jo jl (readV log).1) (hjl : jl ≤ 1048576) => implStateBy_any ao len cap l jo jl jc (readV log).1 wx (h.below hb) hl hf hc hj hjl)
  obtain ⟨⟨rs, rn⟩, hr⟩ : ∃ p, readV log = p := ⟨_, rfl⟩
  rw [hr] at CR CB hrl ⊢
  simp only at CR CB hrl ⊢
  have HB0 := hide (below_al (Below.refl _ w) (.cells #[.slice none 0 0, .int .i64 0, .int .i64 0, .int .i64 0, .int .i64 0, .slice none 0 0, .slice none 0 0, .slice none 0 0] 29))
  have P0 := hide (blk_new w #[.slice none 0 0, .int .i64 0, .int .i64 0, .int .i64 0, .int .i64 0, .slice none 0 0, .slice none 0 0, .slice none 0 0] 29)
  clear h hr hs
  go_enter Tryz.func7, Tryz.ntmps7
  go_wp2_with fail
  refine (unhide CR _).mono ?_
  rintro e w1 ⟨v, rfl, hown, hb⟩
  obtain ⟨jo, jc, rfl, hrow, _, _⟩ := jown_row hown
  have RW := hide hrow
  have HB1 := hide (below_on (unhide HB0) hb)
  have P1 := hide ((unhide P0).below hb)
  obtain ⟨jl, hjl⟩ : ∃ n, rs.length = n := ⟨_, rfl⟩
  rw [hjl] at RW hrl ⊢
  clear hb hown hrow P0 HB0 CR hjl
  go_wp2_with fail
  refine (unhide CB _ _ _ _ (unhide HB1) (unhide RW) (by omega)).mono ?_
  rintro e w2 ⟨y, hs, rfl, hh, hb⟩
  obtain ⟨S1, hS1⟩ : ∃ s, recSt l rs = s := ⟨_, rfl⟩
  obtain ⟨q0, hq0⟩ : ∃ s, queuesOk l = s := ⟨_, rfl⟩
  rw [hS1] at hh
  have HS1 := hide hS1
  have HQ0 := hide hq0
  rw [hS1, hq0]
  obtain ⟨yqa, yql, yqc, yaa, yal, yac, yma, yml, ymc, yca, ycl, ycc⟩ := y
  obtain ⟨sqs, sck, sep, snx, sse, sap, sms, scs⟩ := S1
  have HB2 := hide (below_on (unhide HB1) hb)
  have P2 := hide ((unhide P1).below hb)
  have H2 := hide (hh.base (B' := w.heap.size) (unhide HB1).size)
  have hz2 : w.heap.size < w2.heap.size := (unhide P2).lt
  clear hb hh hS1 hq0 P1 HB1 RW CB
  have c0 := (unhide P2).at 0; have c1 := (unhide P2).at 1; have c2 := (unhide P2).at 2; have c3 := (unhide P2).at 3; have c4 := (unhide P2).at 4; have c5 := (unhide P2).at 5; have c6 := (unhide P2).at 6; have c7 := (unhide P2).at 7
  have f0 := (unhide P2).f 0; have f1 := (unhide P2).f 1; have f2 := (unhide P2).f 2; have f3 := (unhide P2).f 3; have f4 := (unhide P2).f 4; have f5 := (unhide P2).f 5; have f6 := (unhide P2).f 6; have f7 := (unhide P2).f 7
  simp at c0 c1 c2 c3 c4 c5 c6 c7
  go_wp2
  have RR := hide (show Blk ((((((((w2.setCell ⟨w.heap.size, 0, none⟩ (.slice yqa yql yqc)).setCell ⟨w.heap.size, 1, none⟩ (.int .i64 sck)).setCell ⟨w.heap.size, 2, none⟩ (.int .i64 sep)).setCell ⟨w.heap.size, 3, none⟩ (.int .i64 snx)).setCell ⟨w.heap.size, 4, none⟩ (.int .i64 sse)).setCell ⟨w.heap.size, 5, none⟩ (.slice yaa yal yac)).setCell ⟨w.heap.size, 6, none⟩ (.slice yma yml ymc)).setCell ⟨w.heap.size, 7, none⟩ (.slice yca ycl ycc)) (w.heap.size) #[.slice yqa yql yqc, .int .i64 sck, .int .i64 sep, .int .i64 snx, .int .i64 sse, .slice yaa yal yac, .slice yma yml ymc, .slice yca ycl ycc] 29 from (((((((((unhide P2).set 0 (.slice yqa yql yqc)).set 1 (.int .i64 sck)).set 2 (.int .i64 sep)).set 3 (.int .i64 snx)).set 4 (.int .i64 sse)).set 5 (.slice yaa yal yac)).set 6 (.slice yma yml ymc)).set 7 (.slice yca ycl ycc)))
  have MM := hide (show Mks (fun k => k = w.heap.size) w2 ((((((((w2.setCell ⟨w.heap.size, 0, none⟩ (.slice yqa yql yqc)).setCell ⟨w.heap.size, 1, none⟩ (.int .i64 sck)).setCell ⟨w.heap.size, 2, none⟩ (.int .i64 sep)).setCell ⟨w.heap.size, 3, none⟩ (.int .i64 snx)).setCell ⟨w.heap.size, 4, none⟩ (.int .i64 sse)).setCell ⟨w.heap.size, 5, none⟩ (.slice yaa yal yac)).setCell ⟨w.heap.size, 6, none⟩ (.slice yma yml ymc)).setCell ⟨w.heap.size, 7, none⟩ (.slice yca ycl ycc)) from ((((((((Mks.refl (fun k => k = w.heap.size) _).sc (w.heap.size) 0 (.slice yqa yql yqc) rfl).sc (w.heap.size) 1 (.int .i64 sck) rfl).sc (w.heap.size) 2 (.int .i64 sep) rfl).sc (w.heap.size) 3 (.int .i64 snx) rfl).sc (w.heap.size) 4 (.int .i64 sse) rfl).sc (w.heap.size) 5 (.slice yaa yal yac) rfl).sc (w.heap.size) 6 (.slice yma yml ymc) rfl).sc (w.heap.size) 7 (.slice yca ycl ycc) rfl)
  generalize ((((((((w2.setCell ⟨w.heap.size, 0, none⟩ (.slice yqa yql yqc)).setCell ⟨w.heap.size, 1, none⟩ (.int .i64 sck)).setCell ⟨w.heap.size, 2, none⟩ (.int .i64 sep)).setCell ⟨w.heap.size, 3, none⟩ (.int .i64 snx)).setCell ⟨w.heap.size, 4, none⟩ (.int .i64 sse)).setCell ⟨w.heap.size, 5, none⟩ (.slice yaa yal yac)).setCell ⟨w.heap.size, 6, none⟩ (.slice yma yml ymc)).setCell ⟨w.heap.size, 7, none⟩ (.slice yca ycl ycc)) = W9 at RR MM ⊢
  have H9 := hide ((unhide H2).mkt (unhide MM) (unhide P2))
  have B9 := hide ((unhide HB2).trans ((unhide MM).below (fun k e => by rw [e]; exact Nat.le_refl _) (by omega)))
  have z0 := (unhide RR).at 0; have z1 := (unhide RR).at 1; have z2 := (unhide RR).at 2; have z3 := (unhide RR).at 3; have z4 := (unhide RR).at 4; have z5 := (unhide RR).at 5; have z6 := (unhide RR).at 6; have z7 := (unhide RR).at 7
  simp at z0 z1 z2 z3 z4 z5 z6 z7
  refine bodyPost_ret (v := .tuple #[.agg #[.slice yqa yql yqc, .int .i64 sck, .int .i64 sep, .int .i64 snx, .int .i64 sse, .slice yaa yal yac, .slice yma yml ymc, .slice yca ycl ycc], .bool q0]) (by simp [results, Tryz.results7, go_sem, z0, z1, z2, z3, z4, z5, z6, z7]) rfl ?_
  exact (show RecAns w l rs _ _ from by unfold RecAns; rw [unhide HS1, unhide HQ0]; exact ⟨⟨yqa, yql, yqc, yaa, yal, yac, yma, yml, ymc, yca, ycl, ycc⟩, hs, rfl, unhide H9, unhide B9⟩)

end Go.Proofs.YtgdndekmkaknlaaGreat

/-
  A whole log, by the model: Read; a walk over the dump.
-/
namespace Go.Proofs.YtgdndekmkaknlaaGreat
open Go.RowKit
set_option linter.unusedVariables false
set_option linter.unusedSimpArgs false
def BelS (w wx : World) : Prop := Below w.heap.size w wx
theorem word_sv (s : ByteArray) (i : Nat) (h : i + 4 ≤ s.size) (c : Nat) (hc : c < 4294967296) : (s.extract i (i + 4) = bs (word c)) ↔ c = svN s i 4 := by
  have hg : ∀ k, k < 4 → s.data.toList[i + k]? = some s.data.toList[i + k]! := by
    intro k hk
    rw [List.getElem!_eq_getElem?_getD, List.getElem?_eq_getElem (by rw [len_eq]; omega)]
    rfl
  obtain ⟨b0, h0⟩ : ∃ b, s.data.toList[i]? = some b := ⟨_, by simpa using hg 0 (by omega)⟩
  obtain ⟨b1, h1⟩ : ∃ b, s.data.toList[i + 1]? = some b := ⟨_, hg 1 (by omega)⟩
  obtain ⟨b2, h2⟩ : ∃ b, s.data.toList[i + 2]? = some b := ⟨_, hg 2 (by omega)⟩
  obtain ⟨b3, h3⟩ : ∃ b, s.data.toList[i + 3]? = some b := ⟨_, hg 3 (by omega)⟩
  have hx : s.extract i (i + 4) = bs [b0, b1, b2, b3] := by
    have h5 := extract_pre s i 4
    rw [h5]
    congr 1
    unfold pre
    apply List.ext_getElem?
    intro k
    by_cases hk : k < 4
    · rw [List.getElem?_take_of_lt hk, List.getElem?_drop]
      match k, hk with
      | 0, _ => simpa using h0
      | 1, _ => simpa using h1
      | 2, _ => simpa using h2
      | 3, _ => simpa using h3
    · rw [List.getElem?_eq_none (by simp; omega), List.getElem?_eq_none (by simp; omega)]
  have hv : svN s i 4 = ((b0.toNat * 256 + b1.toNat) * 256 + b2.toNat) * 256 + b3.toNat := by
    simp only [svN, Nat.add_zero, h0, h1, h2, h3, Option.getD_some]
    omega
  have l0 := b0.toNat_lt
  have l1 := b1.toNat_lt
  have l2 := b2.toNat_lt
  have l3 := b3.toNat_lt
  have n0 : b0 = UInt8.ofNat b0.toNat := by simp
  have n1 : b1 = UInt8.ofNat b1.toNat := by simp
  have n2 : b2 = UInt8.ofNat b2.toNat := by simp
  have n3 : b3 = UInt8.ofNat b3.toNat := by simp
  rw [hx, hv]
  constructor
  · intro h
    have hl : [b0, b1, b2, b3] = word c := by
      have := congrArg (fun x : ByteArray => x.data.toList) h
      simpa [bs] using this
    simp only [word, List.cons.injEq, and_true] at hl
    obtain ⟨e0, e1, e2, e3⟩ := hl
    have t0 := congrArg UInt8.toNat e0
    have t1 := congrArg UInt8.toNat e1
    have t2 := congrArg UInt8.toNat e2
    have t3 := congrArg UInt8.toNat e3
    rw [UInt8.toNat_ofNat'] at t0 t1 t2 t3
    omega
  · intro h
    subst h
    congr 1
    simp only [word, List.cons.injEq, and_true]
    refine ⟨?_, ?_, ?_, ?_⟩
    · rw [show (((b0.toNat * 256 + b1.toNat) * 256 + b2.toNat) * 256 + b3.toNat) / 16777216 = b0.toNat by omega]; exact n0
    · rw [show (((b0.toNat * 256 + b1.toNat) * 256 + b2.toNat) * 256 + b3.toNat) / 65536 % 256 = b1.toNat by omega]; exact n1
    · rw [show (((b0.toNat * 256 + b1.toNat) * 256 + b2.toNat) * 256 + b3.toNat) / 256 % 256 = b2.toNat by omega]; exact n2
    · rw [show (((b0.toNat * 256 + b1.toNat) * 256 + b2.toNat) * 256 + b3.toNat) % 256 = b3.toNat by omega]; exact n3
theorem entry_short {s : ByteArray} {i : Nat} (h : s.size ≤ i + 4) : readEntry s i = none := by
  unfold readEntry
  by_cases h4 : s.size < i + 4
  · rw [if_pos h4]
  · rw [if_neg h4, if_pos]
    have hd : s.data.toList.drop (((i + 4 : Nat) : Int)).toNat = [] := List.drop_of_length_le (by rw [len_eq]; omega)
    have hn : getNum s.data.toList ((i + 4 : Nat) : Int) = (0, -1) := by
      unfold getNum
      rw [if_neg (by omega), hd]
      rfl
    unfold getText
    rw [hn]
    simp
theorem entry_of {s : ByteArray} {i : Nat} (h : i + 4 ≤ s.size) : readEntry s i = if (getText s.data.toList ((i + 4 : Nat) : Int)).2 < 0 then none
    else match gotRec (getText s.data.toList ((i + 4 : Nat) : Int)).1 with
    | none => none
    | some r => if crc (getText s.data.toList ((i + 4 : Nat) : Int)).1 = svN s i 4 then some (r, (getText s.data.toList ((i + 4 : Nat) : Int)).2) else none := by
  conv => lhs; unfold readEntry
  rw [if_neg (by omega)]
  rfl

set_option maxRecDepth 100000 in
set_option maxHeartbeats 4000000 in
theorem specRead_any (s : ByteArray) (w : World) (hs : s.size ≤ 1048576) :
    Calls Tryz.prog 15 #[.string s] w fun e w' => ∃ v, e = .returned (.tuple #[v, .int .i64 (readV s).2]) ∧ JOwn w.heap.size w' v (readV s).1 ∧ Below w.heap.size w w' := by
  obtain ⟨i0, hi, hz0, hz1, hz2⟩ := info_parts Tryz.infoRec
  have hem := jown_empty w
  have HO0 := hide (show JOwn w.heap.size (w.alloc (.cells #[] 47)) (.slice (some ⟨w.heap.size, 0, none⟩) 0 0) [] from hem)
  have HB0 := hide (below_al (Below.refl _ w) (.cells #[] 47))
  clear hem
  by_cases hbig : 60000 < s.size
  · have hv : readV s = ([], 0) := by unfold readV; rw [if_pos hbig]
    rw [hv]
    clear hv
    go_enter Tryz.func15, Tryz.ntmps15
    go_wp2
    go_loopw [4, 5] (fun v a wr => v = .slice (some ⟨w.heap.size, 0, none⟩) 0 0 ∧ a = .int .i64 0 ∧ wr = w.alloc (.cells #[] 47)) (fun _ _ _ => 0)
    case atStart => exact ⟨rfl, rfl, rfl⟩
    case round =>
      obtain ⟨rfl, rfl, rfl⟩ := hrel
      have hd : decide ((s.size : Int) ≤ 60000) = false := by simp; omega
      go_wp2
      go_ret2
      exact ⟨_, rfl, unhide HO0, unhide HB0⟩
  have hv : readV s = readF s (s.size + 1) 0 [] := by unfold readV; rw [if_neg hbig]
  rw [hv]
  clear hv
  obtain ⟨X, hX⟩ : ∃ X, readF s (s.size + 1) 0 [] = X := ⟨_, rfl⟩
  rw [hX]
  have HX := hide hX
  clear hX
  go_enter Tryz.func15, Tryz.ntmps15
  go_wp2
  go_loopw [4, 5] (fun v a wr => ∃ (i n : Nat) (acc : List Rc), a = .int .i64 (i : Int) ∧ i ≤ s.size ∧ s.size - i < n ∧ acc.length ≤ i ∧ Hid (readF s n i acc = X) ∧ Hid (JOwn w.heap.size wr v acc) ∧ Hid (Below w.heap.size w wr)) (fun _ a _ => s.size - (intOf a).toNat)
  case atStart => exact ⟨0, s.size + 1, [], rfl, by omega, by omega, by simp, HX, HO0, HB0⟩
  case round =>
    obtain ⟨i, n, acc, rfl, hi1, hn, hac, HF, HO, HB⟩ := hrel
    obtain ⟨m, rfl⟩ : ∃ m, n = m + 1 := ⟨n - 1, by omega⟩
    have hle : (s.size : Int) ≤ 60000 := by omega
    by_cases h4 : s.size ≤ i + 4
    · have HF2 := hide (show (acc, (i : Int)) = X by rw [← unhide HF, readF_none (entry_short h4)])
      have hgt : ¬ (4 : Int) < (s.size : Int) - (i : Int) := by omega
      go_wp2
      go_ret2
      rw [← unhide HF2]
      exact ⟨_, rfl, unhide HO, unhide HB⟩
    · have hgt : (4 : Int) < (s.size : Int) - (i : Int) := by omega
      have hex := entry_of (s := s) (i := i) (by omega)
      have hws := fun c hc => word_sv s i (by omega) c hc
      have CT := hide (fun wx => specGetText_any s ((i + 4 : Nat) : Int) wx hs (by omega) (by omega))
      have htl := getText_len2 s.data.toList ((i + 4 : Nat) : Int)
      obtain ⟨⟨t, j⟩, htj⟩ : ∃ x, getText s.data.toList ((i + 4 : Nat) : Int) = x := ⟨_, rfl⟩
      rw [htj] at CT htl hex
      simp only at CT htl hex
      clear htj
      have hi4 : ((i + 4 : Nat) : Int) = (i : Int) + 4 := by omega
      rw [hi4] at CT
      have CG := hide (fun wx => by have := specGetRec_any (bs t) wx (by rw [bs_size]; omega); rw [show gotRec (bs t).data.toList = gotRec t from rfl] at this; exact this)
      have CC := hide (fun wx => by have := specCheckSum_any (bs t) wx (by rw [bs_size]; omega); rw [show crc (bs t).data.toList = crc t from rfl] at this; exact this)
      have hcl : crc t < 4294967296 := xor_lt32 (crcTo_lt _) (by decide)
      have CW := hide (fun wx => l08Word_any (crc t) wx hcl)
      have hws1 := hws (crc t) hcl
      clear hws
      obtain ⟨c, hc⟩ : ∃ c, crc t = c := ⟨_, rfl⟩
      rw [hc] at CC hcl CW hex hws1
      clear hc
      obtain ⟨o, ho⟩ : ∃ o, gotRec t = o := ⟨_, rfl⟩
      rw [ho] at CG hex
      clear ho
      by_cases hj : j < 0
      · have HF2 := hide (show (acc, (i : Int)) = X by rw [← unhide HF, readF_none (by rw [hex, if_pos hj])])
        have HV : ∃ (r : Rc) (b : Bool), recAns o = .tuple #[rcv r, .bool b] := by
          cases o with
          | none => exact ⟨⟨0, 0, []⟩, false, rfl⟩
          | some r => exact ⟨r, true, rfl⟩
        obtain ⟨⟨rk, ra, rq⟩, b, hrb⟩ := HV
        rw [hrb] at CG
        have hjd : decide (j < 0) = true := by simp; exact hj
        clear hex hws1 hrb CC CW
        go_wp2_with fail
        refine (unhide CT _).mono ?_
        rintro e w1 ⟨rfl, hb⟩
        have HO1 := hide (jown_below (unhide HO) hb)
        have HB1 := hide (below_on (unhide HB) hb)
        clear hb CT
        go_wp2_with fail
        refine (unhide CG _).mono ?_
        rintro e w2 ⟨rfl, hb⟩
        have HO2 := hide (jown_below (jown_below (unhide HO1) hb) (below_al (Below.refl _ _) (.cells #[.int .i64 rk, .int .i64 ra, .string (bs rq)] 47)))
        have HB2 := hide (below_al (below_on (unhide HB1) hb) (.cells #[.int .i64 rk, .int .i64 ra, .string (bs rq)] 47))
        have V2 := hide (blk_new w2 #[.int .i64 rk, .int .i64 ra, .string (bs rq)] 47)
        clear hb CG HO1 HB1 HO HB
        go_wp2_with fail
        go_quiet (fail)
        go_wp2
        go_ret2
        rw [← unhide HF2]
        exact ⟨_, rfl, jown_below (unhide HO2) (below_drewN (Below.refl _ _) _), below_drewN (unhide HB2) _⟩
      · rw [if_neg hj] at hex
        have hjd : decide (j < 0) = false := by simp; omega
        cases o with
        | none =>
          have HF2 := hide (show (acc, (i : Int)) = X by rw [← unhide HF, readF_none hex])
          simp only [recAns] at CG
          clear hex hws1 CC CW
          go_wp2_with fail
          refine (unhide CT _).mono ?_
          rintro e w1 ⟨rfl, hb⟩
          have HO1 := hide (jown_below (unhide HO) hb)
          have HB1 := hide (below_on (unhide HB) hb)
          clear hb CT
          go_wp2_with fail
          refine (unhide CG _).mono ?_
          rintro e w2 ⟨rfl, hb⟩
          have HO2 := hide (jown_below (jown_below (unhide HO1) hb) (below_al (Below.refl _ _) (.cells #[.int .i64 0, .int .i64 0, .string (bs [])] 47)))
          have HB2 := hide (below_al (below_on (unhide HB1) hb) (.cells #[.int .i64 0, .int .i64 0, .string (bs [])] 47))
          have V2 := hide (blk_new w2 #[.int .i64 0, .int .i64 0, .string (bs [])] 47)
          clear hb CG HO1 HB1 HO HB
          go_wp2_with fail
          go_quiet (fail)
          go_wp2
          go_ret2
          rw [← unhide HF2]
          exact ⟨_, rfl, jown_below (unhide HO2) (below_drewN (Below.refl _ _) _), below_drewN (unhide HB2) _⟩
        | some r =>
          obtain ⟨rk, ra, rq⟩ := r
          simp only [recAns] at CG
          simp only at hex
          have b1 : (0 : Int) ≤ (i : Int) := by omega
          have b2 : (i : Int) + 4 ≤ (s.size : Int) := by omega
          have b3 : (i : Int) ≤ (i : Int) + 4 := by omega
          have hw4 : IntKind.i64.wrap ((i : Int) + 4) = (i : Int) + 4 := by rw [IntKind.wrap_i64]; omega
          have ht4 : ((i : Int) + 4).toNat = i + 4 := by omega
          have b4 : (0 : Int) ≤ (i : Int) + 4 := by omega
          by_cases hcx : c = svN s i 4
          case neg =>
            rw [if_neg hcx] at hex
            have HF2 := hide (show (acc, (i : Int)) = X by rw [← unhide HF, readF_none hex])
            have hcmp : ((s.extract i (i + 4)).toList == (bs (word c)).toList) = false := by
              rw [beq_eq_false_iff_ne, ne_eq, ByteArray.toList_eq, ByteArray.toList_eq]
              intro h
              apply hcx
              apply hws1.1
              apply ByteArray.ext
              exact Array.ext' h
            clear hex hws1 hcx
            go_wp2_with fail
            refine (unhide CT _).mono ?_
            rintro e w1 ⟨rfl, hb⟩
            have HO1 := hide (jown_below (unhide HO) hb)
            have HB1 := hide (below_on (unhide HB) hb)
            clear hb CT
            go_wp2_with fail
            refine (unhide CG _).mono ?_
            rintro e w2 ⟨rfl, hb⟩
            have HO2 := hide (jown_below (jown_below (unhide HO1) hb) (below_al (Below.refl _ _) (.cells #[.int .i64 rk, .int .i64 ra, .string (bs rq)] 47)))
            have HB2 := hide (below_al (below_on (unhide HB1) hb) (.cells #[.int .i64 rk, .int .i64 ra, .string (bs rq)] 47))
            have V2 := hide (blk_new w2 #[.int .i64 rk, .int .i64 ra, .string (bs rq)] 47)
            clear hb CG HO1 HB1 HO HB
            go_wp2_with fail
            obtain ⟨W, hW⟩ : ∃ W, w2.alloc (.cells #[.int .i64 rk, .int .i64 ra, .string (bs rq)] 47) = W := ⟨_, rfl⟩
            rw [hW] at HO2 HB2 V2 ⊢
            have A0 := hide (show BelS W W from Below.refl _ _)
            go_region_held3 (fun wx => BelS W wx)
              (first | (with_reducible assumption) | exact Below.drew (unhide A0) | exact below_on (by assumption) (by assumption))
              (first
              | (go_at_call 36; refine (unhide CC _).mono ?_; rintro e wt ⟨rfl, rfl⟩)
              | (go_at_call 35; refine (unhide CW _).mono ?_; rintro e wt ⟨rfl, hb⟩; have SA : BelS W wt := below_on (w := W) (by assumption) hb))
            have HBS := hide (show Below W.heap.size W wt from SA)
            clear SA A0
            go_wp2
            go_ret2
            rw [← unhide HF2]
            exact ⟨_, rfl, jown_below (unhide HO2) (unhide HBS), below_on (unhide HB2) (unhide HBS)⟩
          · rw [if_pos hcx] at hex
            obtain ⟨hj1, hj2⟩ := entry_on hex
            have HF2 := hide (show readF s m j.toNat (acc ++ [⟨rk, ra, rq⟩]) = X by rw [← unhide HF, readF_some (by omega) hex])
            have hcmp : ((s.extract i (i + 4)).toList == (bs (word c)).toList) = true := by
              rw [beq_iff_eq, hws1.2 hcx]
            have hjn : (j.toNat : Int) = j := by omega
            clear hex hws1 hcx
            go_wp2_with fail
            refine (unhide CT _).mono ?_
            rintro e w1 ⟨rfl, hb⟩
            have HO1 := hide (jown_below (unhide HO) hb)
            have HB1 := hide (below_on (unhide HB) hb)
            clear hb CT
            go_wp2_with fail
            refine (unhide CG _).mono ?_
            rintro e w2 ⟨rfl, hb⟩
            have HO2 := hide (jown_below (jown_below (unhide HO1) hb) (below_al (Below.refl _ _) (.cells #[.int .i64 rk, .int .i64 ra, .string (bs rq)] 47)))
            have HB2 := hide (below_al (below_on (unhide HB1) hb) (.cells #[.int .i64 rk, .int .i64 ra, .string (bs rq)] 47))
            have V2 := hide (blk_new w2 #[.int .i64 rk, .int .i64 ra, .string (bs rq)] 47)
            clear hb CG HO1 HB1 HO HB
            go_wp2_with fail
            obtain ⟨W, hW⟩ : ∃ W, w2.alloc (.cells #[.int .i64 rk, .int .i64 ra, .string (bs rq)] 47) = W := ⟨_, rfl⟩
            rw [hW] at HO2 HB2 V2 ⊢
            have A0 := hide (show BelS W W from Below.refl _ _)
            go_region_held3 (fun wx => BelS W wx)
              (first | (with_reducible assumption) | exact Below.drew (unhide A0) | exact below_on (by assumption) (by assumption))
              (first
              | (go_at_call 36; refine (unhide CC _).mono ?_; rintro e wt ⟨rfl, rfl⟩)
              | (go_at_call 35; refine (unhide CW _).mono ?_; rintro e wt ⟨rfl, hb⟩; have SA : BelS W wt := below_on (w := W) (by assumption) hb))
            have HBS := hide (show Below W.heap.size W wt from SA)
            have HO3 := hide (jown_below (unhide HO2) (unhide HBS))
            have HB3 := hide (below_on (unhide HB2) (unhide HBS))
            have V3 := hide ((unhide V2).below (unhide HBS))
            have k0 := (unhide V3).at 0
            have k1 := (unhide V3).at 1
            have k2 := (unhide V3).at 2
            simp at k0 k1 k2
            have hsz3 : w.heap.size ≤ wt.heap.size := (unhide HB3).size
            clear SA A0 HO2 HB2 V2
            have hown : wt.ownsRow w.heap.size 47 3 _ acc.length (jcells acc) := unhide HO3
            go_wp2_with (at_builtin; refine wpList_append_own _ rfl _ _ 42 rfl w.heap.size 47 i0 (.agg #[.int .i64 0, .int .i64 0, .string ByteArray.empty]) 3 32 Tryz.underlying42 hi hz0 hz1 hz2 rfl (by decide) _ _ _ rfl (hown.alloc _) ⟨wt.heap.size, 0, none⟩ 1 1 (jcell ⟨rk, ra, rq⟩) rfl rfl ?c1 ?c2 ?c3 ?c4 ?c5 ?_)
            case c1 =>
              intro j x hj
              match j, hj with
              | 0, hj => simp at hj; subst hj; simp [Addr.add]
              | 1, hj => simp at hj; subst hj; simp [Addr.add]
              | 2, hj => simp at hj; subst hj; simp [Addr.add]
              | _ + 3, hj => simp at hj
            case c2 => intro x hx; simp at hx; rcases hx with rfl | rfl | rfl <;> rfl
            case c3 => unfold maxLen; omega
            case c4 => omega
            case c5 => simp at hsz3 ⊢; omega
            intro v' w3 hown' hgrow _
            have R := jown_step (unhide HB3) (unhide HO3) hown' hgrow hsz3
            have HO4 := hide R.1
            have HB4 := hide R.2
            clear hown' hgrow hown R
            go_wp2
            go_roundw
            case rel => exact ⟨j.toNat, m, acc ++ [⟨rk, ra, rq⟩], by rw [hjn], by omega, by omega, by simp; omega, HF2, HO4, HB4⟩
            case measure => simp [intOf]; omega
end Go.Proofs.YtgdndekmkaknlaaGreat

/-
  What a log's records tell, by the model: Recover; a walk over the dump.
-/
namespace Go.Proofs.YtgdndekmkaknlaaGreat
open Go.RowKit
set_option linter.unusedVariables false
set_option linter.unusedSimpArgs false
theorem jown_mks {B : Nat} {S : Nat → Prop} {w w' : World} {v : Value} {l : List Rc} {t' : TypeId} (h : JOwn B w v l) (hm : Mks S w w') (hS : ∀ k, S k → ∃ N, Cel w t' k N) (ht : t' ≠ 47) : JOwn B w' v l := by
  obtain ⟨h1, h2⟩ := h
  refine ⟨h1, ?_⟩
  rcases h2 with h2 | ⟨g, cap, cur, e, k1, k2, k3⟩
  · exact .inl h2
  · refine .inr ⟨g, cap, cur, e, k1, ?_, k3⟩
    rw [hm.block g (lt_of_block k2) (fun hs => by obtain ⟨N, hc⟩ := hS g hs; exact ht (hc.type ⟨_, k2, rfl⟩))]
    exact k2

set_option maxRecDepth 100000 in
set_option maxHeartbeats 8000000 in
theorem specRecover_any (ao : Option Addr) (len cap : Nat) (l : List Q) (log : ByteArray) (w : World) (h : QRow w ao len l) (hl : len ≤ 1048576) (hf : FitQ l) (ha : ∃ ad, ao = some ad) (hs : log.size ≤ 1048576) (hrl : (readV log).1.length ≤ 60000) :
    Calls Tryz.prog 5 #[.slice ao len cap, .string log] w (RecAns w l (readV log).1) := by
  have CN := hide (fun wx (hb : Below w.heap.size w wx) => specStateNew_any ao len cap l wx (h.below hb) hl hf ha (fun qo n c wy hr _ => by have := specStateOk_any (newX qo n c) (newSt l 1 1001 1) wy (new_row 1 1001 1 hr) (new_fit 1 1001 1 hf); rw [new_ok] at this; exact this))
  have CRD := hide (fun wx => specRead_any log wx hs)
  obtain ⟨⟨rs, rn⟩, hr⟩ : ∃ p, readV log = p := ⟨_, rfl⟩
  rw [hr] at CRD hrl ⊢
  simp only at CRD hrl ⊢
  have HB0 := hide (below_al (Below.refl _ w) (.cells #[.slice none 0 0, .int .i64 0, .int .i64 0, .int .i64 0, .int .i64 0, .slice none 0 0, .slice none 0 0, .slice none 0 0] 29))
  have P0 := hide (blk_new w #[.slice none 0 0, .int .i64 0, .int .i64 0, .int .i64 0, .int .i64 0, .slice none 0 0, .slice none 0 0, .slice none 0 0] 29)
  have CA := hide (fun (hq : queuesOk l = true) (x : Sls) (hs : List AV) (k : Nat) (wx : World) (hx : SHas (w.heap.size + 1) wx x (recV l (rs.take k)) hs) (hB : w.heap.size + 1 ≤ wx.heap.size) (hk : k < rs.length) => by
    have := l08Apply_any l x (recV l (rs.take k)) hs rs[k] wx hx hB (rinv_rec hf _) hf hq
    rw [← recV_take hk] at this
    exact this)
  clear h hr hs
  go_enter Tryz.func5, Tryz.ntmps5
  go_wp2_with fail
  refine (unhide CN _ (unhide HB0)).mono ?_
  rintro e w1 ⟨hb, hcase⟩
  have HB1 := hide (below_on (unhide HB0) hb)
  have P1 := hide ((unhide P0).below hb)
  have hz1 : w.heap.size + 1 ≤ w1.heap.size := (unhide P1).lt
  clear hb P0 HB0 CN
  rcases hcase with ⟨hq, rfl⟩ | ⟨hq, v, rfl, hown⟩
  · have hS : recSt l rs = ⟨[], 0, 0, 0, 0, [], [], []⟩ := by rw [recSt, if_neg (by simp [hq])]
    have HS := hide hS
    have HQ := hide hq
    have b2 := below_al (Below.refl _ w1) (.cells #[.slice none 0 0, .int .i64 0, .int .i64 0, .int .i64 0, .int .i64 0, .slice none 0 0, .slice none 0 0, .slice none 0 0] 29)
    have P2 := hide ((unhide P1).below b2)
    have HB2 := hide (below_on (unhide HB1) b2)
    have hz2 := b2.size
    clear hS hq b2 P1
    go_upto_region 3 with fail
    generalize w1.alloc (.cells #[.slice none 0 0, .int .i64 0, .int .i64 0, .int .i64 0, .int .i64 0, .slice none 0 0, .slice none 0 0, .slice none 0 0] 29) = w2 at P2 HB2 hz2 ⊢
    refine wp_region_lit ?_
    refine wpList_same (v := .agg #[.slice none 0 0, .int .i64 0, .int .i64 0, .int .i64 0, .int .i64 0, .slice none 0 0, .slice none 0 0, .slice none 0 0]) (d := some 18) rfl rfl (by refine run_v ?_; simp only [List.map_toArray, List.map_nil]; kernel_rfl) ?_
    simp only [Act.put, List.setIfInBounds_toArray, List.set_cons_zero, List.set_cons_succ]
    refine wpList_none (d := none) rfl rfl (run_u (st_store (unhide P2) rfl rfl (by kernel_rfl))) ?_
    simp only [Act.put]
    have RR := hide (blk_row (unhide P2) #[.slice none 0 0, .int .i64 0, .int .i64 0, .int .i64 0, .int .i64 0, .slice none 0 0, .slice none 0 0, .slice none 0 0])
    have MM := hide (mks_row (unhide P2) #[.slice none 0 0, .int .i64 0, .int .i64 0, .int .i64 0, .int .i64 0, .slice none 0 0, .slice none 0 0, .slice none 0 0] rfl)
    generalize World.setRow w2 w.heap.size #[.slice none 0 0, .int .i64 0, .int .i64 0, .int .i64 0, .int .i64 0, .slice none 0 0, .slice none 0 0, .slice none 0 0] = W9 at RR MM ⊢
    have B9 := hide ((unhide HB2).trans ((unhide MM).below (fun k e => by rw [e]; exact Nat.le_refl _) (by omega)))
    have z0 := (unhide RR).at 0; have z1 := (unhide RR).at 1; have z2 := (unhide RR).at 2; have z3 := (unhide RR).at 3; have z4 := (unhide RR).at 4; have z5 := (unhide RR).at 5; have z6 := (unhide RR).at 6; have z7 := (unhide RR).at 7
    simp at z0 z1 z2 z3 z4 z5 z6 z7
    go_wp2
    refine bodyPost_ret (v := .tuple #[.agg #[.slice none 0 0, .int .i64 0, .int .i64 0, .int .i64 0, .int .i64 0, .slice none 0 0, .slice none 0 0, .slice none 0 0], .bool false]) (by simp [results, Tryz.results5, go_sem, z0, z1, z2, z3, z4, z5, z6, z7]) rfl ?_
    unfold RecAns
    rw [unhide HS, unhide HQ]
    exact ⟨⟨none, 0, 0, none, 0, 0, none, 0, 0, none, 0, 0⟩, [], rfl, zero_has _ _, unhide B9⟩
  have hS : recSt l rs = recV l rs := by rw [recSt, if_pos hq]
  have HS := hide hS
  have HQ := hide hq
  obtain ⟨qo, qd, rfl, _, hqd, _⟩ := qown_rowx hown
  have b2 := below_al (Below.refl _ w1) (.cells (svc (newX qo l.length qd) (newSt l 1 1001 1)) 29)
  rw [al_size] at hown
  have K2 := hide (blk_new w1 (svc (newX qo l.length qd) (newSt l 1 1001 1)) 29)
  have H2 := hide (show SHas (w.heap.size + 1) _ (newX qo l.length qd) (recV l (rs.take 0)) [] from ((new_has 1 1001 1 hown rfl).base (B' := w.heap.size + 1) (by omega)).below b2)
  have P2 := hide ((unhide P1).below b2)
  have HB2 := hide (below_on (unhide HB1) b2)
  obtain ⟨b6, hb6⟩ : ∃ b, w1.heap.size = b := ⟨_, rfl⟩
  rw [hb6] at K2 hz1
  clear hS hq b2 hown hqd P1 HB1
  go_upto_region 4 with fail
  generalize w1.alloc (.cells (svc (newX qo l.length qd) (newSt l 1 1001 1)) 29) = w2 at K2 H2 P2 HB2 ⊢
  have HB6 := hide hb6
  clear hb6
  go_wp2_with fail
  refine (unhide CRD _).mono ?_
  rintro e w3 ⟨v, rfl, hj, hb⟩
  have J3 := hide (jown_base hj (B' := w.heap.size + 1) (by have := (unhide K2).lt; omega))
  have K3 := hide ((unhide K2).below hb)
  have H3 := hide ((unhide H2).below hb)
  have P3 := hide ((unhide P2).below hb)
  have HB3 := hide (below_on (unhide HB2) hb)
  clear hj hb K2 H2 P2 HB2 CRD
  obtain ⟨jo, jc, rfl, _, _, _⟩ := jown_row (unhide J3)
  obtain ⟨jl, hjl⟩ : ∃ n, rs.length = n := ⟨_, rfl⟩
  have HJL := hide hjl
  rw [hjl] at J3 hrl ⊢
  clear hjl
  go_wp2
  go_loopw [10] (fun i wr => ∃ k : Nat, k ≤ jl ∧ i = .int .i64 k ∧ Hid (∃ y hs, Blk wr b6 (svc y (recV l (rs.take k))) 29 ∧ SHas (w.heap.size + 1) wr y (recV l (rs.take k)) hs) ∧ Hid (JOwn (w.heap.size + 1) wr (.slice jo jl jc) rs) ∧ Hid (Blk wr w.heap.size #[.slice none 0 0, .int .i64 0, .int .i64 0, .int .i64 0, .int .i64 0, .slice none 0 0, .slice none 0 0, .slice none 0 0] 29) ∧ Hid (Below w.heap.size w wr)) (fun i _ => jl - (intOf i).toNat)
  case atStart => exact ⟨0, Nat.zero_le _, rfl, hide ⟨_, _, unhide K3, unhide H3⟩, J3, P3, HB3⟩
  case round =>
    clear J3 K3 H3 P3 HB3
    obtain ⟨k, hk, rfl, HST, HJ, HP, HB⟩ := hrel
    obtain ⟨y, hs, hk6, hh6⟩ := unhide HST
    have hzr : b6 < wr.heap.size := hk6.lt
    by_cases hlt : k < jl
    · have hkl : k < rs.length := by have := unhide HJL; omega
      obtain ⟨jo2, jc2, ej, hrow, _, _⟩ := jown_row (unhide HJ)
      simp only [Value.slice.injEq] at ej
      obtain ⟨ej1, ej2, ej3⟩ := ej
      subst ej1 ej3
      clear ej2
      obtain ⟨b', off, rfl, hat⟩ := hrow.at (by rw [unhide HJL]; exact hlt)
      obtain ⟨c0, c1, c2⟩ := hat hkl
      have CX := hide (fun wx (hb : Below wr.heap.size wr wx) => (unhide CA (unhide HQ) y hs k wx (hh6.below hb) (by have := hb.size; omega) hkl).mono (R' := fun e w' => ∃ n hs4, e = .returned (sv n (recV l (rs.take (k + 1)))) ∧ SHas (w.heap.size + 1) w' n (recV l (rs.take (k + 1))) hs4 ∧ Blk w' b6 (svc y (recV l (rs.take k))) 29 ∧ JOwn (w.heap.size + 1) w' (.slice (some ⟨b', off, none⟩) jl jc) rs ∧ Blk w' w.heap.size #[.slice none 0 0, .int .i64 0, .int .i64 0, .int .i64 0, .int .i64 0, .slice none 0 0, .slice none 0 0, .slice none 0 0] 29 ∧ Below w.heap.size w w') (fun e w' ⟨n, hs4, he, hh, hm⟩ => ⟨n, hs4, he, hh, hm.blk (hk6.below hb) (fun ⟨N, hc, _⟩ => absurd (hc.type ⟨_, hk6.below hb, rfl⟩) (by decide)), jown_mks (jown_below (unhide HJ) hb) hm (fun k ⟨N, hc, _⟩ => ⟨N, hc⟩) (by decide), hm.blk ((unhide HP).below hb) (fun ⟨N, _, h⟩ => by omega), (below_on (unhide HB) hb).trans (hm.below (fun k ⟨N, _, h⟩ => by omega) (by have := hb.size; omega))⟩))
      obtain ⟨⟨rk, ra, rq⟩, hr⟩ : ∃ r, rs[k] = r := ⟨_, rfl⟩
      rw [hr] at CX c0 c1 c2
      simp only at c0 c1 c2
      obtain ⟨S2, hS2⟩ : ∃ s, recV l (rs.take (k + 1)) = s := ⟨_, rfl⟩
      have HS2 := hide hS2
      rw [hS2] at CX
      obtain ⟨S1, hS1⟩ : ∃ s, recV l (rs.take k) = s := ⟨_, rfl⟩
      rw [hS1] at hk6 CX
      have k0 : (0 : Int) ≤ k := by omega
      have k1 : (k : Int) < jl := by omega
      have k2 : k < jl := hlt
      have hwk : IntKind.i64.wrap ((k : Int) + 1) = (k : Int) + 1 := by rw [IntKind.wrap_i64]; omega
      obtain ⟨yqa, yql, yqc, yaa, yal, yac, yma, yml, ymc, yca, ycl, ycc⟩ := y
      obtain ⟨sqs, sck, sep, snx, sse, sap, sms, scs⟩ := S1
      have K6 := hide hk6
      have a0 := (unhide K6).at 0; have a1 := (unhide K6).at 1; have a2 := (unhide K6).at 2; have a3 := (unhide K6).at 3; have a4 := (unhide K6).at 4; have a5 := (unhide K6).at 5; have a6 := (unhide K6).at 6; have a7 := (unhide K6).at 7
      simp at a0 a1 a2 a3 a4 a5 a6 a7
      clear hat hr hS1 hS2 hh6 hk6 HST hrow hk
      go_wp2_with fail
      go_region_with (go_at_call 16; refine (unhide CX _ ?_).mono ?_; (first | exact (Below.refl _ _).drew | exact Below.refl _ _); rintro e w4 ⟨n, hs4, rfl, hh4, hk4, hj4, hp4, hb4⟩; obtain ⟨nqa, nql, nqc, naa, nal, nac, nma, nml, nmc, nca, ncl, ncc⟩ := n; obtain ⟨tqs, tck, tep, tnx, tse, tap, tms, tcs⟩ := S2; have K4 := hide hk4; have X4 := hide (And.intro hh4 (And.intro hj4 (And.intro hp4 hb4))); clear hk4 hh4 hj4 hp4 hb4; have d0 := (unhide K4).at 0; have d1 := (unhide K4).at 1; have d2 := (unhide K4).at 2; have d3 := (unhide K4).at 3; have d4 := (unhide K4).at 4; have d5 := (unhide K4).at 5; have d6 := (unhide K4).at 6; have d7 := (unhide K4).at 7; have g0 := (unhide K4).f 0; have g1 := (unhide K4).f 1; have g2 := (unhide K4).f 2; have g3 := (unhide K4).f 3; have g4 := (unhide K4).f 4; have g5 := (unhide K4).f 5; have g6 := (unhide K4).f 6; have g7 := (unhide K4).f 7; simp at d0 d1 d2 d3 d4 d5 d6 d7)
      all_goals
        have K5 := hide (show Blk ((((((((w4.setCell ⟨b6, 0, none⟩ (.slice nqa nql nqc)).setCell ⟨b6, 1, none⟩ (.int .i64 tck)).setCell ⟨b6, 2, none⟩ (.int .i64 tep)).setCell ⟨b6, 3, none⟩ (.int .i64 tnx)).setCell ⟨b6, 4, none⟩ (.int .i64 tse)).setCell ⟨b6, 5, none⟩ (.slice naa nal nac)).setCell ⟨b6, 6, none⟩ (.slice nma nml nmc)).setCell ⟨b6, 7, none⟩ (.slice nca ncl ncc)) b6 #[.slice nqa nql nqc, .int .i64 tck, .int .i64 tep, .int .i64 tnx, .int .i64 tse, .slice naa nal nac, .slice nma nml nmc, .slice nca ncl ncc] 29 from (((((((((unhide K4).set 0 (.slice nqa nql nqc)).set 1 (.int .i64 tck)).set 2 (.int .i64 tep)).set 3 (.int .i64 tnx)).set 4 (.int .i64 tse)).set 5 (.slice naa nal nac)).set 6 (.slice nma nml nmc)).set 7 (.slice nca ncl ncc)))
        have M5 := hide (show Mks (fun k => k = b6) w4 ((((((((w4.setCell ⟨b6, 0, none⟩ (.slice nqa nql nqc)).setCell ⟨b6, 1, none⟩ (.int .i64 tck)).setCell ⟨b6, 2, none⟩ (.int .i64 tep)).setCell ⟨b6, 3, none⟩ (.int .i64 tnx)).setCell ⟨b6, 4, none⟩ (.int .i64 tse)).setCell ⟨b6, 5, none⟩ (.slice naa nal nac)).setCell ⟨b6, 6, none⟩ (.slice nma nml nmc)).setCell ⟨b6, 7, none⟩ (.slice nca ncl ncc)) from ((((((((Mks.refl (fun k => k = b6) _).sc (b6) 0 (.slice nqa nql nqc) rfl).sc (b6) 1 (.int .i64 tck) rfl).sc (b6) 2 (.int .i64 tep) rfl).sc (b6) 3 (.int .i64 tnx) rfl).sc (b6) 4 (.int .i64 tse) rfl).sc (b6) 5 (.slice naa nal nac) rfl).sc (b6) 6 (.slice nma nml nmc) rfl).sc (b6) 7 (.slice nca ncl ncc) rfl)
        generalize ((((((((w4.setCell ⟨b6, 0, none⟩ (.slice nqa nql nqc)).setCell ⟨b6, 1, none⟩ (.int .i64 tck)).setCell ⟨b6, 2, none⟩ (.int .i64 tep)).setCell ⟨b6, 3, none⟩ (.int .i64 tnx)).setCell ⟨b6, 4, none⟩ (.int .i64 tse)).setCell ⟨b6, 5, none⟩ (.slice naa nal nac)).setCell ⟨b6, 6, none⟩ (.slice nma nml nmc)).setCell ⟨b6, 7, none⟩ (.slice nca ncl ncc)) = w5 at K5 M5 ⊢
        obtain ⟨hh4, hj4, hp4, hb4⟩ := unhide X4
        have H5 := hide (hh4.mkt (unhide M5) (unhide K4))
        have J5 := hide (jown_mks hj4 (unhide M5) (fun k e => by rw [e]; exact ⟨_, _, unhide K4, rfl⟩) (by decide))
        have P5 := hide ((unhide M5).blk hp4 (fun e => by omega))
        have B5 := hide (hb4.trans ((unhide M5).below (fun k e => by rw [e]; omega) hb4.size))
        clear hh4 hj4 hp4 hb4 X4 K4 M5 d0 d1 d2 d3 d4 d5 d6 d7
        go_wp2
        go_roundw
        case rel => exact ⟨k + 1, by omega, by go_num, hide ⟨⟨nqa, nql, nqc, naa, nal, nac, nma, nml, nmc, nca, ncl, ncc⟩, hs4, by rw [unhide HS2]; exact unhide K5, by rw [unhide HS2]; exact unhide H5⟩, J5, P5, B5⟩
        case measure => simp [intOf]; omega
    · obtain rfl : k = jl := by omega
      have hall : rs.take k = rs := List.take_of_length_le (by have := unhide HJL; omega)
      have hST : recV l (rs.take k) = recSt l rs := by rw [hall, unhide HS]
      rw [hST] at hk6 hh6
      obtain ⟨S1, hS1⟩ : ∃ s, recSt l rs = s := ⟨_, rfl⟩
      rw [hS1] at hk6 hh6
      have HS1 := hide hS1
      obtain ⟨yqa, yql, yqc, yaa, yal, yac, yma, yml, ymc, yca, ycl, ycc⟩ := y
      obtain ⟨sqs, sck, sep, snx, sse, sap, sms, scs⟩ := S1
      have K6 := hide hk6
      have H6 := hide (hh6.base (B' := w.heap.size) (by omega))
      clear HST hST hall hS1 hk6 hh6 CA
      go_upto_region 9 with fail
      refine wp_region_lit ?_
      refine wpList_same (v := .agg #[.slice yqa yql yqc, .int .i64 sck, .int .i64 sep, .int .i64 snx, .int .i64 sse, .slice yaa yal yac, .slice yma yml ymc, .slice yca ycl ycc]) (d := some 36) rfl rfl (run_v (st_load (unhide K6) rfl)) ?_
      simp only [Act.put, List.setIfInBounds_toArray, List.set_cons_zero, List.set_cons_succ]
      refine wpList_none (d := none) rfl rfl (run_u (st_store (unhide HP) rfl rfl (by kernel_rfl))) ?_
      simp only [Act.put]
      have RR := hide (blk_row (unhide HP) #[.slice yqa yql yqc, .int .i64 sck, .int .i64 sep, .int .i64 snx, .int .i64 sse, .slice yaa yal yac, .slice yma yml ymc, .slice yca ycl ycc])
      have MM := hide (mks_row (unhide HP) #[.slice yqa yql yqc, .int .i64 sck, .int .i64 sep, .int .i64 snx, .int .i64 sse, .slice yaa yal yac, .slice yma yml ymc, .slice yca ycl ycc] rfl)
      generalize World.setRow wr (w.heap.size) #[.slice yqa yql yqc, .int .i64 sck, .int .i64 sep, .int .i64 snx, .int .i64 sse, .slice yaa yal yac, .slice yma yml ymc, .slice yca ycl ycc] = W9 at RR MM ⊢
      have H9 := hide ((unhide H6).mkt (unhide MM) (unhide HP))
      have B9 := hide ((unhide HB).trans ((unhide MM).below (fun k e => by rw [e]; omega) (by omega)))

      have z0 := (unhide RR).at 0; have z1 := (unhide RR).at 1; have z2 := (unhide RR).at 2; have z3 := (unhide RR).at 3; have z4 := (unhide RR).at 4; have z5 := (unhide RR).at 5; have z6 := (unhide RR).at 6; have z7 := (unhide RR).at 7
      simp at z0 z1 z2 z3 z4 z5 z6 z7
      go_wp2
      refine bodyPost_ret (v := .tuple #[.agg #[.slice yqa yql yqc, .int .i64 sck, .int .i64 sep, .int .i64 snx, .int .i64 sse, .slice yaa yal yac, .slice yma yml ymc, .slice yca ycl ycc], .bool true]) (by simp [results, Tryz.results5, go_sem, z0, z1, z2, z3, z4, z5, z6, z7]) rfl ?_
      exact (show RecAns w l rs _ _ from by unfold RecAns; rw [unhide HS1, unhide HQ]; exact ⟨⟨yqa, yql, yqc, yaa, yal, yac, yma, yml, ymc, yca, ycl, ycc⟩, hs, rfl, unhide H9, unhide B9⟩)
end Go.Proofs.YtgdndekmkaknlaaGreat
