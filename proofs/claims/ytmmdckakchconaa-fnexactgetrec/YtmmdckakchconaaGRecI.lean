/-
  The record of bytes, by the program: GetRec, which recovers what its reader panics with; a walk over the dump.
-/
import Derived.Test.YtmmdckakchconaaGRecC
import Derived.Test.YtmmdckakchconaaRdN
import Derived.Test.YtmmdckakchconaaScS
import Derived.Defers
import Derived.Recover
import Derived.Laws.Pointers
namespace Go.Proofs.Ytmmdckakchconaa
open Go.RowKit
set_option linter.unusedVariables false
set_option linter.unusedSimpArgs false
def gotOf (n : Nat) : Option (Rc × Int) → Option Rc
  | none => none
  | some (r, k) => if (n : Int) ≤ k then some r else none
/-- what GetRec answers -/
def gotRec (l : List UInt8) : Option Rc :=
  gotOf l.length (readRec l)
def recAns (o : Option Rc) : Value := match o with | some r => .tuple #[rcv r, .bool true] | none => .tuple #[rcv ⟨0, 0, []⟩, .bool false]
theorem bs_nil : bs [] = (⟨#[]⟩ : ByteArray) := rfl

set_option maxRecDepth 100000 in
set_option maxHeartbeats 1500000 in
theorem implGetRec_any (s : ByteArray) (w : World) (hs : s.size ≤ 1048576) :
    Calls Try.prog 6 #[.string s] w fun e w' => e = .returned (recAns (gotRec s.data.toList)) ∧ Below w.heap.size w w' := by
  have hmf : ∀ (fn : Fn) (first cap : Array Value) (w : World), (Instr.makeFunc fn first cap).run Try.prog w = .ok (.func fn first cap) w := fun _ _ _ _ => rfl
  have CR := hide (fun wx (hr : Rd wx (w.heap.size + 2) s 0 0) => nextRec_any (w.heap.size + 2) s 0 wx hr hs)
  have CD := hide (fun k wx (hr : Rd wx (w.heap.size + 2) s k 0) => done_any (w.heap.size + 2) s k 0 wx hr hs)
  have CF := hide (fun k wx (hr : Rd wx (w.heap.size + 2) s k 0) => fail_any (w.heap.size + 2) s k 0 wx hr)
  have V0 := hide (((blk_new w #[.int .i64 0, .int .i64 0, .string ⟨#[]⟩] 23).al (.cells #[.bool false] 4)).al (.cells (rdA s) 58))
  have U0 := hide ((blk_new (w.alloc (.cells #[.int .i64 0, .int .i64 0, .string ⟨#[]⟩] 23)) #[.bool false] 4).al (.cells (rdA s) 58))
  have R0 := hide (Rd.newA ((w.alloc (.cells #[.int .i64 0, .int .i64 0, .string ⟨#[]⟩] 23)).alloc (.cells #[.bool false] 4)) s)
  have HB0 := hide (below_al (below_al (below_al (Below.refl _ w) (.cells #[.int .i64 0, .int .i64 0, .string ⟨#[]⟩] 23)) (.cells #[.bool false] 4)) (.cells (rdA s) 58))
  simp only [al_size] at U0 R0
  have HL := hide (len_eq s)
  obtain ⟨x, hx⟩ : ∃ x, readRec s.data.toList = x := ⟨_, rfl⟩
  have HG : gotRec s.data.toList = gotOf s.data.toList.length x := by unfold gotRec; rw [hx]
  rw [HG]
  rw [hx] at CR
  clear HG hx
  cases x with
  | none =>
    simp only [Option.map_none] at CR
    simp only [gotOf]
    go_enter_defers Try.func6, Try.ntmps6
    go_upto_region 2 with fail
    refine wp_region_lit ?_
    refine wpList_val (v := .string s) (d := some 6) rfl rfl rfl ?_
    simp only [Act.put, List.setIfInBounds_toArray, List.set_cons_zero, List.set_cons_succ]
    refine wpList_same (v := .agg (rdA s)) (d := some 7) rfl rfl (by refine run_v ?_; simp only [List.map_toArray, List.map_cons, List.map_nil]; exact rd_build s _) ?_
    simp only [Act.put, List.setIfInBounds_toArray, List.set_cons_zero, List.set_cons_succ]
    refine wpList_val (d := some 4) rfl rfl (run_v (rd_alloc _ _)) ?_
    simp only [Act.put, List.setIfInBounds_toArray, List.set_cons_zero, List.set_cons_succ]
    refine wpList_none (d := none) rfl rfl (run_u (rd_store s _)) ?_
    simp only [Act.put]
    refine wpList_nil ?_
    go_wp2_with fail
    refine (unhide CR _ (unhide R0)).mono ?_
    rintro e w1 ⟨hg, rfl, hr⟩
    have V1 := hide ((unhide V0).gby hg (by omega))
    have U1 := hide ((unhide U0).gby hg (by omega))
    have HB1 := hide ((unhide HB0).grown hg (unhide HB0).size (fun k hk => by cases hk; omega))
    clear hg hr
    go_wp2
    refine leaves_cons (f := 16) (args := #[.pointer (some ⟨w.heap.size, 0, none⟩), .pointer (some ⟨w.heap.size + 1, 0, none⟩)]) (by simp) (by simp [go_sem]) ?_
    refine (catch_panicking w.heap.size ⟨0, 0, []⟩ false 0 [] w1 (unhide V1) (unhide U1)).mono ?_
    rintro e u' w2 ⟨rfl, rfl, h1, h2, hb⟩
    have HB2 := hide (Below.trans (unhide HB1) hb)
    have k0 := h1.at 0
    have k1 := h1.at 1
    have k2 := h1.at 2
    have k3 := h2.at 0
    simp at k0 k1 k2 k3
    clear hb h1 h2
    refine ⟨recAns none, ?_, rfl, unhide HB2⟩
    simp [results, Try.results6, go_sem, k0, k1, k2, k3, recAns, bs_nil]
  | some y =>
    obtain ⟨r, k⟩ := y
    simp only [Option.map_some] at CR
    simp only [gotOf]
    obtain ⟨rk, ra, rq⟩ := r
    by_cases hk : (s.data.toList.length : Int) ≤ k
    · rw [if_pos hk]
      have hd : decide ((s.size : Int) ≤ k) = true := by rw [unhide HL] at hk; simpa using hk
      have CD' := hide (fun wx hr => by have := unhide CD k wx hr; rw [hd] at this; exact this)
      clear hd CD hk
      go_enter_defers Try.func6, Try.ntmps6
      go_upto_region 2 with fail
      refine wp_region_lit ?_
      refine wpList_val (v := .string s) (d := some 6) rfl rfl rfl ?_
      simp only [Act.put, List.setIfInBounds_toArray, List.set_cons_zero, List.set_cons_succ]
      refine wpList_same (v := .agg (rdA s)) (d := some 7) rfl rfl (by refine run_v ?_; simp only [List.map_toArray, List.map_cons, List.map_nil]; exact rd_build s _) ?_
      simp only [Act.put, List.setIfInBounds_toArray, List.set_cons_zero, List.set_cons_succ]
      refine wpList_val (d := some 4) rfl rfl (run_v (rd_alloc _ _)) ?_
      simp only [Act.put, List.setIfInBounds_toArray, List.set_cons_zero, List.set_cons_succ]
      refine wpList_none (d := none) rfl rfl (run_u (rd_store s _)) ?_
      simp only [Act.put]
      refine wpList_nil ?_
      go_wp2_with fail
      refine (unhide CR _ (unhide R0)).mono ?_
      rintro e w1 ⟨hg, rfl, hr⟩
      have V1 := hide ((unhide V0).gby hg (by omega))
      have U1 := hide ((unhide U0).gby hg (by omega))
      have R1 := hide hr
      have HB1 := hide ((unhide HB0).grown hg (unhide HB0).size (fun k hk => by cases hk; omega))
      have v0 := (unhide V1).at 0
      have v1 := (unhide V1).at 1
      have v2 := (unhide V1).at 2
      have f0 := (unhide V1).f 0
      have f1 := (unhide V1).f 1
      have f2 := (unhide V1).f 2
      simp at v0 v1 v2
      have V2 := hide ((((unhide V1).set 0 (.int .i64 rk)).set 1 (.int .i64 ra)).set 2 (.string (bs rq)))
      have U2 := hide ((((unhide U1).other w.heap.size 0 (.int .i64 rk) (by omega)).other w.heap.size 1 (.int .i64 ra) (by omega)).other w.heap.size 2 (.string (bs rq)) (by omega))
      have R2 := hide (show Rd _ (w.heap.size + 2) s k 0 from Rd.other (Rd.other (Rd.other (unhide R1) w.heap.size 0 (.int .i64 rk) (by omega)) w.heap.size 1 (.int .i64 ra) (by omega)) w.heap.size 2 (.string (bs rq)) (by omega))
      have HB2 := hide (below_sc (below_sc (below_sc (unhide HB1) w.heap.size 0 (.int .i64 rk) (Nat.le_refl _)) w.heap.size 1 (.int .i64 ra) (Nat.le_refl _)) w.heap.size 2 (.string (bs rq)) (Nat.le_refl _))
      clear hg hr
      go_wp2_with fail
      refine (unhide CD' _ (unhide R2)).mono ?_
      rintro e w2 ⟨rfl, hb⟩
      have HB3 := hide (below_on (unhide HB2) hb)
      have V3 := hide ((unhide V2).below hb)
      have U3 := hide ((unhide U2).below hb)
      have y0 := (unhide V3).at 0
      have y1 := (unhide V3).at 1
      have y2 := (unhide V3).at 2
      have z0 := (unhide V3).f 0
      have z1 := (unhide V3).f 1
      have z2 := (unhide V3).f 2
      have y3 := (unhide U3).at 0
      have z3 := (unhide U3).f 0
      simp at y0 y1 y2 y3
      clear hb
      have sc0 := sc_same y0
      have sc1 := sc_same y1
      have sc2 := sc_same y2
      go_wp2
      have VF := hide (show Blk (w2.setCell ⟨w.heap.size + 1, 0, none⟩ (.bool true)) w.heap.size #[.int .i64 rk, .int .i64 ra, .string (bs rq)] 23 from Blk.other (by have := unhide V3; simpa using this) _ _ _ (by omega))
      have UF := hide (show Blk (w2.setCell ⟨w.heap.size + 1, 0, none⟩ (.bool true)) (w.heap.size + 1) #[.bool true] 4 from by have := (unhide U3).set 0 (.bool true); simpa using this)
      have HBF := hide (below_sc (unhide HB3) (w.heap.size + 1) 0 (.bool true) (by omega))
      clear V0 U0 R0 HB0 V1 U1 R1 HB1 V2 U2 R2 HB2 V3 U3 HB3
      refine leaves_cons (f := 16) (args := #[.pointer (some ⟨w.heap.size, 0, none⟩), .pointer (some ⟨w.heap.size + 1, 0, none⟩)]) (by simp) (by simp [go_sem]) ?_
      refine (catch_idle w.heap.size ⟨rk, ra, rq⟩ true _ (unhide VF) (unhide UF)).mono ?_
      rintro e u' w3 ⟨rfl, rfl, hb⟩
      have HB4 := hide (below_on (unhide HBF) hb)
      have h1 := (unhide VF).below hb
      have h2 := (unhide UF).below hb
      have k0 := h1.at 0
      have k1 := h1.at 1
      have k2 := h1.at 2
      have k3 := h2.at 0
      simp at k0 k1 k2 k3
      clear hb h1 h2
      refine ⟨recAns (some ⟨rk, ra, rq⟩), ?_, rfl, unhide HB4⟩
      simp [results, Try.results6, go_sem, k0, k1, k2, k3, recAns]
    · rw [if_neg hk]
      have hd : decide ((s.size : Int) ≤ k) = false := by rw [unhide HL] at hk; simpa using hk
      have CD' := hide (fun wx hr => by have := unhide CD k wx hr; rw [hd] at this; exact this)
      clear hd CD hk
      go_enter_defers Try.func6, Try.ntmps6
      go_upto_region 2 with fail
      refine wp_region_lit ?_
      refine wpList_val (v := .string s) (d := some 6) rfl rfl rfl ?_
      simp only [Act.put, List.setIfInBounds_toArray, List.set_cons_zero, List.set_cons_succ]
      refine wpList_same (v := .agg (rdA s)) (d := some 7) rfl rfl (by refine run_v ?_; simp only [List.map_toArray, List.map_cons, List.map_nil]; exact rd_build s _) ?_
      simp only [Act.put, List.setIfInBounds_toArray, List.set_cons_zero, List.set_cons_succ]
      refine wpList_val (d := some 4) rfl rfl (run_v (rd_alloc _ _)) ?_
      simp only [Act.put, List.setIfInBounds_toArray, List.set_cons_zero, List.set_cons_succ]
      refine wpList_none (d := none) rfl rfl (run_u (rd_store s _)) ?_
      simp only [Act.put]
      refine wpList_nil ?_
      go_wp2_with fail
      refine (unhide CR _ (unhide R0)).mono ?_
      rintro e w1 ⟨hg, rfl, hr⟩
      have V1 := hide ((unhide V0).gby hg (by omega))
      have U1 := hide ((unhide U0).gby hg (by omega))
      have R1 := hide hr
      have HB1 := hide ((unhide HB0).grown hg (unhide HB0).size (fun k hk => by cases hk; omega))
      have v0 := (unhide V1).at 0
      have v1 := (unhide V1).at 1
      have v2 := (unhide V1).at 2
      have f0 := (unhide V1).f 0
      have f1 := (unhide V1).f 1
      have f2 := (unhide V1).f 2
      simp at v0 v1 v2
      have V2 := hide ((((unhide V1).set 0 (.int .i64 rk)).set 1 (.int .i64 ra)).set 2 (.string (bs rq)))
      have U2 := hide ((((unhide U1).other w.heap.size 0 (.int .i64 rk) (by omega)).other w.heap.size 1 (.int .i64 ra) (by omega)).other w.heap.size 2 (.string (bs rq)) (by omega))
      have R2 := hide (show Rd _ (w.heap.size + 2) s k 0 from Rd.other (Rd.other (Rd.other (unhide R1) w.heap.size 0 (.int .i64 rk) (by omega)) w.heap.size 1 (.int .i64 ra) (by omega)) w.heap.size 2 (.string (bs rq)) (by omega))
      have HB2 := hide (below_sc (below_sc (below_sc (unhide HB1) w.heap.size 0 (.int .i64 rk) (Nat.le_refl _)) w.heap.size 1 (.int .i64 ra) (Nat.le_refl _)) w.heap.size 2 (.string (bs rq)) (Nat.le_refl _))
      clear hg hr
      go_wp2_with fail
      refine (unhide CD' _ (unhide R2)).mono ?_
      rintro e w2 ⟨rfl, hb⟩
      have HB3 := hide (below_on (unhide HB2) hb)
      have V3 := hide ((unhide V2).below hb)
      have U3 := hide ((unhide U2).below hb)
      have R3 := hide (Rd.below (unhide R2) hb)
      clear hb
      go_wp2_with fail
      refine (unhide CF k _ (unhide R3)).mono ?_
      rintro e w4 ⟨rfl, rfl⟩
      have VF := hide (show Blk w2 w.heap.size #[.int .i64 rk, .int .i64 ra, .string (bs rq)] 23 from (by have := unhide V3; simpa using this))
      clear V0 U0 R0 HB0 V1 U1 R1 HB1 V2 U2 R2 HB2 V3 R3
      go_wp2
      refine leaves_cons (f := 16) (args := #[.pointer (some ⟨w.heap.size, 0, none⟩), .pointer (some ⟨w.heap.size + 1, 0, none⟩)]) (by simp) (by simp [go_sem]) ?_
      refine (catch_panicking w.heap.size ⟨rk, ra, rq⟩ false 0 [] w2 (unhide VF) (unhide U3)).mono ?_
      rintro e u' w3 ⟨rfl, rfl, h1, h2, hb⟩
      have HB4 := hide (Below.trans (unhide HB3) hb)
      have k0 := h1.at 0
      have k1 := h1.at 1
      have k2 := h1.at 2
      have k3 := h2.at 0
      simp at k0 k1 k2 k3
      clear hb h1 h2
      refine ⟨recAns none, ?_, rfl, unhide HB4⟩
      simp [results, Try.results6, go_sem, k0, k1, k2, k3, recAns, bs_nil]
end Go.Proofs.Ytmmdckakchconaa
