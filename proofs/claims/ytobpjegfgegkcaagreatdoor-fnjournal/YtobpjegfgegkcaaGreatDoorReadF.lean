/-
  A whole log, by the program: Read; a walk over the dump.
-/
import Derived.Test.YtobpjegfgegkcaaGreatDoorRdM
import Derived.Test.YtobpjegfgegkcaaGreatDoorReadC
import Derived.Test.YtobpjegfgegkcaaGreatDoorOwnJ
import Derived.Laws.AppendOwn
namespace Go.Proofs.YtobpjegfgegkcaaGreatDoor
open Go.RowKit
set_option linter.unusedVariables false
set_option linter.unusedSimpArgs false
/-- the records of a log from a byte on, behind those that are gathered; and where the last of them ends -/
def readF (s : ByteArray) : Nat → Nat → List Rc → List Rc × Int
  | 0, i, acc => (acc, i)
  | n + 1, i, acc =>
    if s.size ≤ i then (acc, i)
    else match readEntry s i with
      | none => (acc, i)
      | some (r, j) => readF s n j.toNat (acc ++ [r])
def readV (s : ByteArray) : List Rc × Int := if 60000 < s.size then ([], 0) else readF s (s.size + 1) 0 []
theorem readF_done {s : ByteArray} {n i : Nat} {acc : List Rc} (h : s.size ≤ i) : readF s (n + 1) i acc = (acc, (i : Int)) := by rw [readF, if_pos h]
theorem readF_none {s : ByteArray} {n i : Nat} {acc : List Rc} (h : readEntry s i = none) : readF s (n + 1) i acc = (acc, (i : Int)) := by
  rw [readF]
  split
  · rfl
  · rw [h]
theorem readF_some {s : ByteArray} {n i : Nat} {acc : List Rc} {r : Rc} {j : Int} (h0 : i < s.size) (h : readEntry s i = some (r, j)) : readF s (n + 1) i acc = readF s n j.toNat (acc ++ [r]) := by
  rw [readF, if_neg (by omega), h]
theorem entry_on {s : ByteArray} {i : Nat} {r : Rc} {j : Int} (h : readEntry s i = some (r, j)) : (i : Int) + 5 ≤ j ∧ j ≤ s.size := by
  unfold readEntry at h
  split at h
  · exact absurd h (by simp)
  · split at h
    · exact absurd h (by simp)
    · rename_i h4 h2
      split at h
      · exact absurd h (by simp)
      · rename_i r' hr
        split at h
        · simp only [Option.some.injEq, Prod.mk.injEq] at h
          obtain ⟨rfl, rfl⟩ := h
          have hsp := getText_split _ _ h2
          have hle := getText_pos_le s _ h2
          refine ⟨?_, hle.2⟩
          have h3 := hsp.2.2.1
          have h5 := congrArg List.length h3
          have hpt : 1 ≤ (putText (getText s.data.toList ((i + 4 : Nat) : Int)).1).length := by
            unfold putText
            rw [if_pos hsp.2.1, List.length_append]
            have := put_pos (getText s.data.toList ((i + 4 : Nat) : Int)).1.length
            omega
          rw [List.length_append, List.length_drop, List.length_drop, len_eq] at h5
          omega
        · exact absurd h (by simp)
theorem jown_step {w wr w1 : World} {B : Nat} {v v' : Value} {l : List Rc} {q : Rc} {ob : Obj} (hb : Below B w wr) (hown : JOwn B wr v l)
    (h1 : w1.ownsRow B 25 3 v' (l.length + 1) (jcells l ++ jcell q)) (hg : (wr.alloc ob).grownBy w1 v.ownBlock) (hB : B ≤ wr.heap.size) :
    JOwn B w1 v' (l ++ [q]) ∧ Below B w w1 := by
  refine ⟨?_, (hb.alloc hB ob).grown hg (by simp; omega) ?_⟩
  · unfold JOwn
    rw [jcells_app, List.length_append]
    exact h1
  · intro k hk
    rcases hown.2 with ⟨rfl, _⟩ | ⟨g, cap, cur, rfl, hg', _⟩
    · simp [Value.ownBlock] at hk
    · simp [Value.ownBlock] at hk; omega

def atOf (w : World) (g : Nat) : Nat := (intOf ((w.cell? ⟨g, 1, none⟩).getD undef)).toNat
theorem Rd.atOf {w : World} {g i : Nat} {s : ByteArray} {bg : Int} (h : Rd w g s i bg) : atOf w g = i := by
  have := Rd.at h 1
  simp at this
  unfold Go.Proofs.YtobpjegfgegkcaaGreatDoor.atOf
  rw [this]
  simp [intOf]
theorem jown_gby {w w' : World} {B g : Nat} {v : Value} {l : List Rc} (h : JOwn B w v l) (hg : w.grownBy w' (some g)) (hlt : g < B) : JOwn B w' v l := by
  refine World.ownsRow.kept h hg ?_
  rcases h.2 with ⟨rfl, _⟩ | ⟨g', cap, cur, rfl, hg', _⟩
  · exact .inl rfl
  · right
    simp [Value.ownBlock]
    omega

set_option maxRecDepth 100000 in
set_option maxHeartbeats 4000000 in
theorem implRead_any (s : ByteArray) (w : World) (hs : s.size ≤ 1048576) :
    Calls Tryz.prog 6 #[.string s] w fun e w' => ∃ v, e = .returned (.tuple #[v, .int .i64 (readV s).2]) ∧ JOwn w.heap.size w' v (readV s).1 ∧ Below w.heap.size w w' := by
  have hmf : ∀ (fn : Fn) (first cap : Array Value) (w : World), (Instr.makeFunc fn first cap).run Tryz.prog w = .ok (.func fn first cap) w := fun _ _ _ _ => rfl
  obtain ⟨i0, hi, hz0, hz1, hz2⟩ := info_parts Tryz.infoRec
  have E0 := hide (blk_new w #[.int .i64 0] 3)
  have HB0 := hide (below_al (Below.refl _ w) (.cells #[.int .i64 0] 3))
  by_cases hbig : 60000 < s.size
  · have hv : readV s = ([], 0) := by unfold readV; rw [if_pos hbig]
    rw [hv]
    clear hv
    go_enter_defers Tryz.func6, Tryz.ntmps6
    go_wp2
    refine ⟨.tuple #[.slice none 0 0, .int .i64 0], by simp [results, Tryz.results6, go_sem], .slice none 0 0, rfl, jown_nil _ _, ?_⟩
    repeat (first | exact unhide HB0 | refine below_al ?_ _ | refine Below.drew ?_ | refine below_sc ?_ _ _ _ (by omega))
  have hv : readV s = readF s (s.size + 1) 0 [] := by unfold readV; rw [if_neg hbig]
  rw [hv]
  clear hv
  obtain ⟨X, hX⟩ : ∃ X, readF s (s.size + 1) 0 [] = X := ⟨_, rfl⟩
  rw [hX]
  have HX := hide hX
  clear hX
  have CD := hide (fun (i : Nat) bg wx (hr : Rd wx (w.heap.size + 1) s i bg) => done_any (w.heap.size + 1) s i bg wx hr hs)
  have CE := hide (fun (i : Nat) bg wx (hr : Rd wx (w.heap.size + 1) s i bg) (hi : i ≤ s.size) => nextEntry_any (w.heap.size + 1) s i bg wx hr hs hi)
  have E1 := hide ((unhide E0).al (.cells (rdA s) 62))
  have R1 := hide (Rd.newA (w.alloc (.cells #[.int .i64 0] 3)) s)
  have HB1 := hide (below_al (unhide HB0) (.cells (rdA s) 62))
  simp only [al_size] at R1
  go_enter_defers Tryz.func6, Tryz.ntmps6
  go_upto_region 4 with fail
  refine wp_region_lit ?_
  refine wpList_val (v := .string s) (d := some 9) rfl rfl rfl ?_
  simp only [Act.put, List.setIfInBounds_toArray, List.set_cons_zero, List.set_cons_succ]
  refine wpList_same (v := .agg (rdA s)) (d := some 10) rfl rfl (by refine run_v ?_; simp only [List.map_toArray, List.map_cons, List.map_nil]; exact rd_build s _) ?_
  simp only [Act.put, List.setIfInBounds_toArray, List.set_cons_zero, List.set_cons_succ]
  refine wpList_val (d := some 4) rfl rfl (run_v (rd_alloc _ _)) ?_
  simp only [Act.put, List.setIfInBounds_toArray, List.set_cons_zero, List.set_cons_succ]
  refine wpList_none (d := none) rfl rfl (run_u (rd_store s _)) ?_
  simp only [Act.put, al_size]
  refine wpList_nil ?_
  go_wp2
  go_loopw [2] (fun v wr => ∃ (i n : Nat) (acc : List Rc) (bg : Int), i ≤ s.size ∧ s.size - i < n ∧ acc.length ≤ i ∧ Hid (readF s n i acc = X) ∧ Hid (JOwn (w.heap.size + 2) wr v acc) ∧ Hid (Rd wr (w.heap.size + 1) s i bg) ∧ Hid (Blk wr w.heap.size #[.int .i64 0] 3) ∧ Hid (Below w.heap.size w wr) ∧ w.heap.size + 2 ≤ wr.heap.size) (fun _ wr => s.size - atOf wr (w.heap.size + 1))
  case atStart => exact ⟨0, s.size + 1, [], 0, by omega, by omega, by simp, HX, hide (jown_nil _ _), R1, E1, HB1, by simp⟩
  case round =>
    obtain ⟨i, n, acc, bg, hi1, hn, hac, HF, HO, HR, HE, HB, hsz⟩ := hrel
    obtain ⟨m, rfl⟩ : ∃ m, n = m + 1 := ⟨n - 1, by omega⟩
    have hat := (unhide HR).atOf
    have C1 := hide (unhide CD i bg wr (unhide HR))
    by_cases hd : s.size ≤ i
    · have hdd : decide ((s.size : Int) ≤ (i : Int)) = true := by simp; omega
      rw [hdd] at C1
      have HF2 := hide (show (acc, (i : Int)) = X by rw [← unhide HF, readF_done hd])
      go_wp2_with fail
      refine (unhide C1).mono ?_
      rintro e w1 ⟨rfl, hb⟩
      have HO1 := hide (jown_below (unhide HO) hb)
      have HE1 := hide ((unhide HE).below hb)
      have HB1 := hide (below_on (unhide HB) hb)
      have k1 := (Rd.below (unhide HR) hb).at 1
      have e0 := (unhide HE1).at 0
      have ef := (unhide HE1).f 0
      simp at k1 e0
      clear hb
      go_wp2_with fail
      refine wp_region_noPanic ?_
      go_region_with (fail)
      refine NoPanic.normal ?_
      go_wp2
      have VF := hide (show Blk (w1.setCell ⟨w.heap.size, 0, none⟩ (.int .i64 (i : Int))).drew w.heap.size #[.int .i64 (i : Int)] 3 from Blk.drew (by simpa using (unhide HE1).set 0 (.int .i64 (i : Int))))
      have OF := hide (show JOwn (w.heap.size + 2) (w1.setCell ⟨w.heap.size, 0, none⟩ (.int .i64 (i : Int))).drew u2 acc from jown_below (jown_other (unhide HO1) _ _ _ (by omega)) (Below.refl _ _).drew)
      have HBF := hide (below_sc (unhide HB1) w.heap.size 0 (.int .i64 (i : Int)) (Nat.le_refl _)).drew
      refine leaves_cons (f := 21) (args := #[.pointer (some ⟨w.heap.size, 0, none⟩)]) (by simp) (by simp [go_sem]) ?_
      refine (catchR_idle w.heap.size (i : Int) _ (unhide VF)).mono ?_
      rintro e u' w3 ⟨rfl, rfl, hb⟩
      have h1 := (unhide VF).below hb
      have k0 := h1.at 0
      simp at k0
      have HO3 := hide (jown_below (unhide OF) hb)
      have HB3 := hide (below_on (unhide HBF) hb)
      clear hb h1
      rw [← unhide HF2]
      refine ⟨.tuple #[u2, .int .i64 (i : Int)], ?_, u2, rfl, jown_base (unhide HO3) (by omega), unhide HB3⟩
      simp [results, Tryz.results6, go_sem, k0]
    · have hdd : decide ((s.size : Int) ≤ (i : Int)) = false := by simp; omega
      rw [hdd] at C1
      have C2 := hide (fun wx hr => unhide CE i bg wx hr hi1)
      obtain ⟨x, hx⟩ : ∃ x, readEntry s i = x := ⟨_, rfl⟩
      have C3 := hide (by have := unhide C2; rw [hx] at this; exact this)
      clear C2
      cases x with
      | none =>
        have HF2 := hide (show (acc, (i : Int)) = X by rw [← unhide HF, readF_none hx])
        simp only [Option.map_none] at C3
        clear hx
        go_wp2_with fail
        refine (unhide C1).mono ?_
        rintro e w1 ⟨rfl, hb⟩
        have HR1 := hide (Rd.below (unhide HR) hb)
        have HO1 := hide (jown_below (unhide HO) hb)
        have HE1 := hide ((unhide HE).below hb)
        have HB1 := hide (below_on (unhide HB) hb)
        clear hb
        go_wp2_with fail
        refine (unhide C3 _ (unhide HR1)).mono ?_
        rintro e w2 ⟨hg, rfl, hr⟩
        have HO2 := hide (jown_gby (unhide HO1) hg (by omega))
        have HE2 := hide ((unhide HE1).gby hg (by omega))
        have HB2 := hide ((unhide HB1).grown hg (unhide HB1).size (fun k hk => by cases hk; omega))
        clear hg hr
        go_wp2
        refine leaves_cons (f := 21) (args := #[.pointer (some ⟨w.heap.size, 0, none⟩)]) (by simp) (by simp [go_sem]) ?_
        refine (catchR_panicking w.heap.size 0 (i : Int) [] w2 (unhide HE2)).mono ?_
        rintro e u' w3 ⟨rfl, rfl, h1, hg⟩
        have k0 := h1.at 0
        simp at k0
        have HO3 := hide (jown_gby (unhide HO2) hg (by omega))
        have HB3 := hide ((unhide HB2).grown hg (unhide HB2).size (fun k hk => by cases hk; omega))
        clear hg h1
        rw [← unhide HF2]
        refine ⟨.tuple #[u2, .int .i64 (i : Int)], ?_, u2, rfl, jown_base (unhide HO3) (by omega), unhide HB3⟩
        simp [results, Tryz.results6, go_sem, k0]
      | some y =>
        obtain ⟨⟨rk, ra, rq⟩, j⟩ := y
        obtain ⟨hj1, hj2⟩ := entry_on hx
        have HF2 := hide (show readF s m j.toNat (acc ++ [⟨rk, ra, rq⟩]) = X by rw [← unhide HF, readF_some (by omega) hx])
        simp only [Option.map_some] at C3
        have hjn : (j.toNat : Int) = j := by omega
        clear hx
        go_wp2_with fail
        refine (unhide C1).mono ?_
        rintro e w1 ⟨rfl, hb⟩
        have HR1 := hide (Rd.below (unhide HR) hb)
        have HO1 := hide (jown_below (unhide HO) hb)
        have HE1 := hide ((unhide HE).below hb)
        have HB1 := hide (below_on (unhide HB) hb)
        have hsz1 : w.heap.size + 2 ≤ w1.heap.size := Nat.le_trans hsz hb.size
        clear hb
        go_wp2_with fail
        refine (unhide C3 _ (unhide HR1)).mono ?_
        rintro e w2 ⟨hg, rfl, hr⟩
        have HR2 := hide hr
        have HO2 := hide (jown_gby (unhide HO1) hg (by omega))
        have HE2 := hide ((unhide HE1).gby hg (by omega))
        have HB2 := hide ((unhide HB1).grown hg (unhide HB1).size (fun k hk => by cases hk; omega))
        have hsz2 : w.heap.size + 2 ≤ w2.heap.size := Nat.le_trans hsz1 hg.size
        clear hg hr
        have hown : w2.ownsRow (w.heap.size + 2) 25 3 _ acc.length (jcells acc) := unhide HO2
        go_wp2_with (at_builtin; refine wpList_append_own _ rfl _ _ 28 rfl (w.heap.size + 2) 25 i0 (.agg #[.int .i64 0, .int .i64 0, .string ByteArray.empty]) 3 32 Tryz.underlying28 hi hz0 hz1 hz2 rfl (by decide) _ _ _ rfl (hown.alloc _) ⟨w2.heap.size, 0, none⟩ 1 1 (jcell ⟨rk, ra, rq⟩) rfl rfl ?c1 ?c2 ?c3 ?c4 ?c5 ?_)
        case c1 =>
          intro j x hj
          match j, hj with
          | 0, hj => simp at hj; subst hj; simp [Addr.add]
          | 1, hj => simp at hj; subst hj; simp [Addr.add]
          | 2, hj => simp at hj; subst hj; simp [Addr.add]
          | _ + 3, hj => simp at hj
        case c2 => intro x hx; simp at hx; rcases hx with rfl | rfl | rfl <;> rfl
        case c3 => unfold maxLen; omega
        case c4 => omega
        case c5 => simp at hsz2 ⊢; omega
        intro v' w3 hown' hgrow _
        have R := jown_step (Below.refl (w.heap.size + 2) w2) (unhide HO2) hown' hgrow hsz2
        have HR3 := hide (show Rd w3 (w.heap.size + 1) s j i from (unhide HR2).move (R.2.block _ (by omega)))
        have HE3 := hide (show Blk w3 w.heap.size #[.int .i64 0] 3 from (R.2.block _ (by omega)).trans (unhide HE2))
        have HB3 := hide (Below.trans (unhide HB2) (R.2.mono (by omega)))
        have HO3 := hide R.1
        have hsz3 : w.heap.size + 2 ≤ w3.heap.size := Nat.le_trans hsz2 R.2.size
        have hat3 : atOf w3 (w.heap.size + 1) = j.toNat := by have h := unhide HR3; rw [← hjn] at h; exact h.atOf
        clear hown' hgrow hown R
        go_wp2
        go_roundw
        case rel => exact ⟨j.toNat, m, acc ++ [⟨rk, ra, rq⟩], (i : Int), by omega, by omega, by simp; omega, HF2, HO3, hide (by rw [hjn]; exact unhide HR3), HE3, HB3, hsz3⟩
        case measure => rw [hat3, hat]; omega
end Go.Proofs.YtobpjegfgegkcaaGreatDoor
