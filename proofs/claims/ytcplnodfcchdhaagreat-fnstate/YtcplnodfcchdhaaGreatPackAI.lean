/-
  Several texts of this claim in one: UpM, ShareI (pack.py put them together); each says in its own remark what is proved.
-/
import Derived.Test.YtcplnodfcchdhaaGreatPackAF
import Derived.Test.YtcplnodfcchdhaaGreatPackAH
import Derived.Test.YtcplnodfcchdhaaGreatPackAG
import Derived.Test.YtcplnodfcchdhaaGreatPackM
/-
  A queue, its parent, and so on, each looked for ahead of its kid: in plain words.
-/
namespace Go.Proofs.YtcplnodfcchdhaaGreat
open Go.RowKit
set_option linter.unusedVariables false
/-- shares of shares, the last step first -/
def partS (t : Int × Int) : List Int → Int × Int
  | [] => t
  | n :: r => (shareM (partS t r).1 (partS t r).2 n, shareC (partS t r).1 (partS t r).2 n)
/-- the steps below the first one -/
def stepsOf (most : Bool) (u : List Q) : List Int := (u.takeWhile (fun q => decide (q.parent ≠ []))).map (fieldOf most)
theorem upAt_part {l : List Q} (h : queuesOk l = true) (most : Bool) (t : Int × Int) : ∀ (n : Nat) (p : Int), p < n → partS t (stepsOf most (upAt l n p)) = ofP l most t ((upAt l n p).map Q.name)
  | 0, _, _ => rfl
  | n + 1, p, hn => by
    rw [upAt]
    split
    · rename_i hp
      have hq := ok_at h p.toNat hp.2
      have ha := parent_ahead h hp.2
      simp only [qOk, Bool.and_eq_true, decide_eq_true_eq] at hq
      have hb : byName l l[p.toNat].name = l[p.toNat] := by rw [byName, hq.1.1.1.2, Int.toNat_natCast, List.getD_eq_getElem?_getD, List.getElem?_eq_getElem hp.2]; rfl
      by_cases hz : l[p.toNat].parent = []
      · have hm : place l l[p.toNat].parent = -1 := by rw [hz]; exact placeFrom_none (ok_named h)
        have hu : upAt l n (place l l[p.toNat].parent) = [] := by
          rw [hm]; cases n with
          | zero => rfl
          | succ n => rw [upAt, dif_neg (by omega)]
        rw [hu]
        simp [stepsOf, hz, partS, ofP]
      · have hi : p.toNat ≠ 0 := fun e => by
          have := hq.2
          rw [if_pos e] at this
          simp only [Bool.and_eq_true, decide_eq_true_eq] at this
          exact hz this.1
        have hpl := hq.2
        rw [if_neg hi] at hpl
        simp only [inB, decide_eq_true_eq] at hpl
        have ih := upAt_part h most t n (place l l[p.toNat].parent) (by omega)
        obtain ⟨r, hr⟩ : ∃ r, upAt l n (place l l[p.toNat].parent) = r := ⟨_, rfl⟩
        have hne : r ≠ [] := by
          rw [← hr]; cases n with
          | zero => omega
          | succ n => rw [upAt, dif_pos ⟨hpl.1, by omega⟩]; simp
        rw [hr] at ih ⊢
        cases r with
        | nil => exact absurd rfl hne
        | cons y r =>
          rw [List.map_cons, List.map_cons, ofP, hb]
          rw [List.map_cons] at ih
          rw [← ih]
          simp only [stepsOf, List.takeWhile_cons (a := l[p.toNat])]
          simp only [hz, ne_eq, not_false_eq_true, decide_true, if_true, List.map_cons, partS]
    · simp [stepsOf, partS, ofP]
theorem ups_part {l : List Q} (h : queuesOk l = true) (nm : List UInt8) (a b : Int) (most : Bool) (hp : 0 ≤ place l nm) (hr : resOk a b = true) : ofR l nm a b most = partS (a, b) (stepsOf most (ups l nm)) := by
  have hr' := place_range l nm
  have e := ups_path h nm
  have hne : path l nm ≠ [] := by
    rw [← e, ups_up h, upAt, dif_pos ⟨hp, by omega⟩]; simp
  rw [ofR, if_neg (by simp [hne, hr]), ← e, ups_up h, upAt_part h most (a, b) _ _ (by omega)]
theorem ofR_none1 {l : List Q} (h : queuesOk l = false) (nm : List UInt8) (a b : Int) (most : Bool) : ofR l nm a b most = (0, 0) := by rw [ofR, path, h]; simp
theorem ofR_none2 {l : List Q} {nm : List UInt8} (h : place l nm < 0) (a b : Int) (most : Bool) : ofR l nm a b most = (0, 0) := by
  have : path l nm = [] := by rw [path]; split; exact path_end h; rfl
  rw [ofR, this]; simp
theorem ofR_none3 (l : List Q) (nm : List UInt8) {a b : Int} (h : resOk a b = false) (most : Bool) : ofR l nm a b most = (0, 0) := by rw [ofR, h]; simp
end Go.Proofs.YtcplnodfcchdhaaGreat

/-
  A share of an amount: what the program's Share answers; a walk over the dump.
-/
namespace Go.Proofs.YtcplnodfcchdhaaGreat
open Go.RowKit
set_option linter.unusedVariables false
set_option maxRecDepth 100000 in
set_option maxHeartbeats 1000000 in
theorem implShare_any (a b n : Int) (w : World) :
    Calls Tryz.prog 134 #[rv a b, .int .i64 n] w fun e w' => e = .returned (rv (shareM a b n) (shareC a b n)) ∧ Below w.heap.size w w' := by
  cases h1 : resOk a b
  · rw [show shareM a b n = 0 by simp [shareM, shareOk, h1], show shareC a b n = 0 by simp [shareC, shareOk, h1]]
    go_enter Tryz.func134, Tryz.ntmps134
    go_wp2_with (go_at_call 113; refine (ok_any _ _ _).mono ?_; rintro e w' ⟨rfl, rfl⟩)
    refine bodyPost_ret (v := rv 0 0) (by simp [results, Tryz.results134, go_sem]) rfl ⟨rfl, ?_⟩
    repeat (first | exact Below.refl _ _ | refine below_al ?_ _ | refine Below.drew ?_ | refine below_sc ?_ _ _ _ (by omega))
  · cases h2 : inB n 0 10000
    · rw [show shareM a b n = 0 by simp [shareM, shareOk, h2], show shareC a b n = 0 by simp [shareC, shareOk, h2]]
      by_cases n0 : n < 0
      · go_enter Tryz.func134, Tryz.ntmps134
        go_wp2_with (go_at_call 113; refine (ok_any _ _ _).mono ?_; rintro e w' ⟨rfl, rfl⟩)
        refine bodyPost_ret (v := rv 0 0) (by simp [results, Tryz.results134, go_sem]) rfl ⟨rfl, ?_⟩
        repeat (first | exact Below.refl _ _ | refine below_al ?_ _ | refine Below.drew ?_ | refine below_sc ?_ _ _ _ (by omega))
      · have n1 : 10000 < n := by
          apply Int.not_le.1
          intro h
          have : inB n 0 10000 = true := inB_true (by omega) h
          rw [this] at h2; cases h2
        go_enter Tryz.func134, Tryz.ntmps134
        go_wp2_with (go_at_call 113; refine (ok_any _ _ _).mono ?_; rintro e w' ⟨rfl, rfl⟩)
        refine bodyPost_ret (v := rv 0 0) (by simp [results, Tryz.results134, go_sem]) rfl ⟨rfl, ?_⟩
        repeat (first | exact Below.refl _ _ | refine below_al ?_ _ | refine Below.drew ?_ | refine below_sc ?_ _ _ _ (by omega))
    · rw [show shareM a b n = a * n / 10000 by simp [shareM, shareOk, h1, h2], show shareC a b n = b * n / 10000 by simp [shareC, shareOk, h1, h2]]
      obtain ⟨q1, q2, q3, q4⟩ := resOk_bd h1
      have hn : 0 ≤ n ∧ n ≤ 10000 := by simpa [inB] using h2
      obtain ⟨m1, m2⟩ := mul_bd q1 q2 hn.1 hn.2
      obtain ⟨m3, m4⟩ := mul_bd q3 q4 hn.1 hn.2
      go_enter Tryz.func134, Tryz.ntmps134
      go_wp2_with (go_at_call 113; refine (ok_any _ _ _).mono ?_; rintro e w' ⟨rfl, rfl⟩)
      refine bodyPost_ret (v := rv (a * n / 10000) (b * n / 10000)) (by simp [results, Tryz.results134, go_sem]) rfl ⟨rfl, ?_⟩
      repeat (first | exact Below.refl _ _ | refine below_al ?_ _ | refine Below.drew ?_ | refine below_sc ?_ _ _ _ (by omega))
end Go.Proofs.YtcplnodfcchdhaaGreat
