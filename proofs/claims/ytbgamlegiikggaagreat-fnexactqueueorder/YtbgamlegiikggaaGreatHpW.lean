/-
  The library's heap, by its methods: what up and down do of a list that is held; walks over the dump.
-/
import Derived.Test.YtbgamlegiikggaaGreatPackA
import Derived.Test.YtbgamlegiikggaaGreatHeapU
import Derived.LoopTactic
import Derived.Below
import Derived.Laws.Pointers
import Derived.KernelRfl
namespace Go.Proofs.YtbgamlegiikggaaGreat
open Go.RowKit HeapM
set_option linter.unusedVariables false

theorem nilchk (a : Addr) (nm : String) (w : World) : (Builtin.ssaWrapNilChk_ #[55] 55 #[.pointer (some a), strVal "", strVal nm]).run Tryz.prog w = .ok (.pointer (some a)) w := rfl
set_option maxRecDepth 100000 in
theorem m_less (g : Nat) (w : World) (x y : Value) (h : w.heap[g]? = some (.cells #[x, y] 60 (0, 0))) : (method 342 55 (.pointer (some ⟨g, 0, none⟩)) "Less").run Tryz.prog w = .ok (179, .agg #[x, y]) w := by
  have h0 : w.cell? ⟨g, 0, none⟩ = some x := by simp [World.cell?, h]
  have h1 : w.cell? ⟨g, 1, none⟩ = some y := by simp [World.cell?, h]
  have hmap : (Array.find? (fun x => x.name == "Less") Tryz.t55.methods).map (fun m => (m.path.toList, m.func)) = some ([], some (179, false)) := by kernel_rfl
  obtain ⟨m, hm, he⟩ := Option.map_eq_some_iff.1 hmap
  simp only [Prod.mk.injEq] at he
  obtain ⟨hp, hf⟩ := he
  unfold method
  have hp' : m.path = #[] := Array.toList_eq_nil_iff.1 hp
  generalize (("Less".splitOn ".").getLastD "Less") = nm
  simp [go_sem, hm, hp', hf, follow, receiverAt, Place.get, nilchk, h0, h1]
set_option maxRecDepth 100000 in
theorem m_swap (g : Nat) (w : World) (x y : Value) (h : w.heap[g]? = some (.cells #[x, y] 60 (0, 0))) : (method 342 55 (.pointer (some ⟨g, 0, none⟩)) "Swap").run Tryz.prog w = .ok (182, .agg #[x, y]) w := by
  have h0 : w.cell? ⟨g, 0, none⟩ = some x := by simp [World.cell?, h]
  have h1 : w.cell? ⟨g, 1, none⟩ = some y := by simp [World.cell?, h]
  have hmap : (Array.find? (fun x => x.name == "Swap") Tryz.t55.methods).map (fun m => (m.path.toList, m.func)) = some ([], some (182, false)) := by kernel_rfl
  obtain ⟨m, hm, he⟩ := Option.map_eq_some_iff.1 hmap
  simp only [Prod.mk.injEq] at he
  obtain ⟨hp, hf⟩ := he
  unfold method
  have hp' : m.path = #[] := Array.toList_eq_nil_iff.1 hp
  generalize (("Swap".splitOn ".").getLastD "Swap") = nm
  simp [go_sem, hm, hp', hf, follow, receiverAt, Place.get, nilchk, h0, h1]
/-- what the heap's methods do, of a list that is held -/
structure HeapObj (A : Prop) {α : Type} (d : α) (ah : α → α → Bool) (g : Nat) (HI : World → List α → Prop) (V : World → α → Value → Prop) : Prop where
  obj : ∀ w l, HI w l → ∃ x y, w.heap[g]? = some (.cells #[x, y] 60 (0, 0))
  less : ∀ w l x y (i j : Nat), HI w l → w.heap[g]? = some (.cells #[x, y] 60 (0, 0)) → i < l.length → j < l.length → Calls Tryz.prog 179 #[.agg #[x, y], .int .i64 (i : Int), .int .i64 (j : Int)] w fun e w' => e = .returned (.bool (ah (HeapM.at' d l i) (HeapM.at' d l j))) ∧ HI w' l
  swap : ∀ w l x y (i j : Nat), HI w l → w.heap[g]? = some (.cells #[x, y] 60 (0, 0)) → i < l.length → j < l.length → Calls Tryz.prog 182 #[.agg #[x, y], .int .i64 (i : Int), .int .i64 (j : Int)] w fun e w' => e = .returned (.tuple #[]) ∧ HI w' (HeapM.swapL d l i j)
  len : ∀ w l x y, HI w l → w.heap[g]? = some (.cells #[x, y] 60 (0, 0)) → Calls Tryz.prog 30 #[.agg #[x, y]] w fun e w' => e = .returned (.int .i64 (l.length : Int)) ∧ HI w' l
  push : A → ∀ w l a v, HI w l → V w a v → l.length < 1000000 → Calls Tryz.prog 181 #[.pointer (some ⟨g, 0, none⟩), v] w fun e w' => e = .returned (.tuple #[]) ∧ HI w' (l ++ [a])
  pop : ∀ w l, HI w l → 0 < l.length → Calls Tryz.prog 180 #[.pointer (some ⟨g, 0, none⟩)] w fun e w' => (∃ v, e = .returned v ∧ V w' (HeapM.at' d l (l.length - 1)) v) ∧ HI w' (l.take (l.length - 1))
set_option maxRecDepth 100000 in
theorem m_len (g : Nat) (w : World) (x y : Value) (h : w.heap[g]? = some (.cells #[x, y] 60 (0, 0))) : (method 342 55 (.pointer (some ⟨g, 0, none⟩)) "Len").run Tryz.prog w = .ok (30, .agg #[x, y]) w := by
  have h0 : w.cell? ⟨g, 0, none⟩ = some x := by simp [World.cell?, h]
  have h1 : w.cell? ⟨g, 1, none⟩ = some y := by simp [World.cell?, h]
  have hmap : (Array.find? (fun x => x.name == "Len") Tryz.t55.methods).map (fun m => (m.path.toList, m.func)) = some ([], some (30, false)) := by kernel_rfl
  obtain ⟨m, hm, he⟩ := Option.map_eq_some_iff.1 hmap
  simp only [Prod.mk.injEq] at he
  obtain ⟨hp, hf⟩ := he
  unfold method
  have hp' : m.path = #[] := Array.toList_eq_nil_iff.1 hp
  generalize (("Len".splitOn ".").getLastD "Len") = nm
  simp [go_sem, hm, hp', hf, follow, receiverAt, Place.get, nilchk, h0, h1]
set_option maxRecDepth 100000 in
theorem m_push (g : Nat) (w : World) : (method 342 55 (.pointer (some ⟨g, 0, none⟩)) "Push").run Tryz.prog w = .ok (181, .pointer (some ⟨g, 0, none⟩)) w := by kernel_rfl
set_option maxRecDepth 100000 in
theorem m_pop (g : Nat) (w : World) : (method 342 55 (.pointer (some ⟨g, 0, none⟩)) "Pop").run Tryz.prog w = .ok (180, .pointer (some ⟨g, 0, none⟩)) w := by kernel_rfl
set_option maxRecDepth 100000 in
set_option maxHeartbeats 2000000 in
theorem up_any {A : Prop} {α : Type} {d : α} {ah : α → α → Bool} {g : Nat} {HI : World → List α → Prop} {V : World → α → Value → Prop} (H : HeapObj A d ah g HI V) (l : List α) (j : Nat) (w : World) (h : HI w l) (hj : j < l.length) (hl : l.length ≤ 1000000) :
    Calls Tryz.prog 109 #[.iface 55 (.pointer (some ⟨g, 0, none⟩)), .int .i64 (j : Int)] w fun e w' => e = .returned (.tuple #[]) ∧ HI w' (upL d ah (j + 1) l j) := by
  have HH := hide H
  have H0 := hide h
  obtain ⟨R, hR⟩ : ∃ R, upL d ah (j + 1) l j = R := ⟨_, rfl⟩
  rw [hR]
  have HR := hide hR
  obtain ⟨n, hn⟩ : ∃ n, l.length = n := ⟨_, rfl⟩
  have HN := hide hn
  rw [hn] at hj hl
  clear H h hR hn
  go_enter Tryz.func109, Tryz.ntmps109
  go_wp2
  go_loopw [1] (fun v wr => ∃ (i : Nat) (l' : List α), v = .int .i64 (i : Int) ∧ i < n ∧ Hid (l'.length = n) ∧ Hid (HI wr l') ∧ Hid (upL d ah (i + 1) l' i = R)) (fun v _ => (intOf v).toNat)
  case atStart => exact ⟨j, l, rfl, hj, HN, H0, HR⟩
  case round =>
    obtain ⟨i, l', rfl, hi, HL, HI', HR'⟩ := hrel
    by_cases h0 : i = 0
    · subst h0
      go_wp2
      go_end0
      have hr := unhide HR'
      rw [upL, if_pos rfl] at hr
      exact ⟨rfl, hr ▸ unhide HI'⟩
    · obtain ⟨x, y, hb⟩ := (unhide HH).obj _ _ (unhide HI')
      have hm := m_less g wr x y hb
      have hp := HeapM.par_lt (k := i) (by omega)
      have C1 := hide ((unhide HH).less wr l' x y i (HeapM.par i) (unhide HI') hb (by have := unhide HL; omega) (by have := unhide HL; omega))
      have hq : ((i : Int) - 1) / 2 = ((HeapM.par i : Nat) : Int) := by unfold HeapM.par; omega
      have hne : ¬ ((HeapM.par i : Nat) : Int) = (i : Int) := by omega
      obtain ⟨b, hbe⟩ : ∃ b, ah (HeapM.at' d l' i) (HeapM.at' d l' (HeapM.par i)) = b := ⟨_, rfl⟩
      rw [hbe] at C1
      have hr := unhide HR'
      rw [upL, if_neg h0, hbe] at hr
      have HR2 := hide hr
      clear hr hbe
      go_wp2_with fail
      refine (unhide C1).mono ?_
      rintro e w2 ⟨rfl, hi2⟩
      have HI2 := hide hi2
      clear hi2 C1 hm hb
      cases b
      · go_wp2
        go_end0
        exact ⟨rfl, (unhide HR2) ▸ unhide HI2⟩
      · obtain ⟨x2, y2, hb2⟩ := (unhide HH).obj _ _ (unhide HI2)
        have hm2 := m_swap g w2 x2 y2 hb2
        have C2 := hide ((unhide HH).swap w2 l' x2 y2 (HeapM.par i) i (unhide HI2) hb2 (by have := unhide HL; omega) (by have := unhide HL; omega))
        have HR3 := hide (show upL d ah i (HeapM.swapL d l' (HeapM.par i) i) (HeapM.par i) = R from by have := unhide HR2; simpa using this)
        clear hb2 HR2
        go_wp2_with fail
        refine (unhide C2).mono ?_
        rintro e w3 ⟨rfl, hi3⟩
        have HI3 := hide hi3
        clear hi3 C2 hm2
        go_wp2
        go_roundw
        case rel => exact ⟨HeapM.par i, HeapM.swapL d l' (HeapM.par i) i, rfl, by omega, hide (by rw [HeapM.swap_len]; exact unhide HL), HI3, hide (by rw [upL_fuel d ah (HeapM.par i + 1) i _ _ (by omega) (by omega)]; exact unhide HR3)⟩
        case measure => simp [intOf]; omega
set_option maxRecDepth 100000 in
set_option maxHeartbeats 4000000 in
theorem down_any {A : Prop} {α : Type} {d : α} {ah : α → α → Bool} {g : Nat} {HI : World → List α → Prop} {V : World → α → Value → Prop} (H : HeapObj A d ah g HI V) (l : List α) (n : Nat) (w : World) (h : HI w l) (hn : n ≤ l.length) (hl : l.length ≤ 1000000) :
    Calls Tryz.prog 110 #[.iface 55 (.pointer (some ⟨g, 0, none⟩)), .int .i64 0, .int .i64 (n : Int)] w fun e w' => ∃ b, e = .returned (.bool b) ∧ HI w' (downL d ah n (n + 1) l 0) := by
  have HH := hide H
  have H0 := hide h
  obtain ⟨R, hR⟩ : ∃ R, downL d ah n (n + 1) l 0 = R := ⟨_, rfl⟩
  rw [hR]
  have HR := hide hR
  obtain ⟨N, hN⟩ : ∃ N, l.length = N := ⟨_, rfl⟩
  have HN := hide hN
  rw [hN] at hn hl
  clear H h hR hN
  go_enter Tryz.func110, Tryz.ntmps110
  go_wp2
  go_loopw [7] (fun v wr => ∃ (i : Nat) (l' : List α), v = .int .i64 (i : Int) ∧ i ≤ n ∧ Hid (l'.length = N) ∧ Hid (HI wr l') ∧ Hid (downL d ah n (n - i + 1) l' i = R)) (fun v _ => n - (intOf v).toNat)
  case atStart => exact ⟨0, l, rfl, by omega, HN, H0, HR⟩
  case round =>
    obtain ⟨i, l', rfl, hi, HL, HI', HR'⟩ := hrel
    have hr := unhide HR'
    rw [downL] at hr
    by_cases h0 : n ≤ 2 * i + 1
    · rw [if_pos h0] at hr
      have HR2 := hide hr
      have h1 : (n : Int) ≤ 2 * (i : Int) + 1 := by omega
      clear hr
      go_wp2
      go_ret
      exact ⟨_, rfl, (unhide HR2) ▸ unhide HI'⟩
    · rw [if_neg h0] at hr
      have HR2 := hide hr
      clear hr
      have hk := kid_lt (d := d) (ah := ah) (l := l') h0
      have h1 : ¬ (n : Int) ≤ 2 * (i : Int) + 1 := by omega
      have h1' : decide ((n : Int) ≤ 2 * (i : Int) + 1) = false := by simp; omega
      have HREST := hide (fun (wr : World) (hi2 : HI wr l') => hi2)
      by_cases h2 : 2 * i + 2 < n
      · obtain ⟨x, y, hb⟩ := (unhide HH).obj _ _ (unhide HI')
        have hm := m_less g wr x y hb
        have C1 := hide ((unhide HH).less wr l' x y (2 * i + 2) (2 * i + 1) (unhide HI') hb (by have := unhide HL; omega) (by have := unhide HL; omega))
        have e1 : ((2 * i + 2 : Nat) : Int) = 2 * (i : Int) + 1 + 1 := by omega
        have e2 : ((2 * i + 1 : Nat) : Int) = 2 * (i : Int) + 1 := by omega
        rw [e1, e2] at C1
        have h3 : 2 * (i : Int) + 1 + 1 < (n : Int) := by omega
        obtain ⟨b, hbe⟩ : ∃ b, ah (HeapM.at' d l' (2 * i + 2)) (HeapM.at' d l' (2 * i + 1)) = b := ⟨_, rfl⟩
        rw [hbe] at C1
        have HK := hide (show kidL d ah n l' i = if b = true then 2 * i + 2 else 2 * i + 1 by unfold kidL; rw [hbe]; simp [h2])
        clear hbe e1 e2
        go_wp2_with fail
        refine (unhide C1).mono ?_
        rintro e w2 ⟨rfl, hi2⟩
        have HI2 := hide hi2
        clear hi2 C1 hm hb
        cases b
        · have hk2 : kidL d ah n l' i = 2 * i + 1 := by have := unhide HK; simpa using this
          have hr := unhide HR2
          rw [hk2] at hr
          obtain ⟨x2, y2, hb2⟩ := (unhide HH).obj _ _ (unhide HI2)
          have hm2 := m_less g w2 x2 y2 hb2
          have C2 := hide ((unhide HH).less w2 l' x2 y2 (2 * i + 1) i (unhide HI2) hb2 (by have := unhide HL; omega) (by have := unhide HL; omega))
          have e3 : ((2 * i + 1 : Nat) : Int) = 2 * (i : Int) + 1 := by omega
          rw [e3] at C2
          obtain ⟨c, hc⟩ : ∃ c, ah (HeapM.at' d l' (2 * i + 1)) (HeapM.at' d l' i) = c := ⟨_, rfl⟩
          rw [hc] at C2 hr
          have HR3 := hide hr
          clear hr hc hb2 HR2
          go_wp2_with fail
          refine (unhide C2).mono ?_
          rintro e w3 ⟨rfl, hi3⟩
          have HI3 := hide hi3
          clear hi3 C2 hm2
          cases c
          · go_wp2
            go_ret
            exact ⟨_, rfl, (show l' = R by have := unhide HR3; simpa using this) ▸ unhide HI3⟩
          · obtain ⟨x4, y4, hb4⟩ := (unhide HH).obj _ _ (unhide HI3)
            have hm4 := m_swap g w3 x4 y4 hb4
            have C4 := hide ((unhide HH).swap w3 l' x4 y4 i (2 * i + 1) (unhide HI3) hb4 (by have := unhide HL; omega) (by have := unhide HL; omega))
            rw [e3] at C4
            have HR4 := hide (show downL d ah n (n - i) (HeapM.swapL d l' i (2 * i + 1)) (2 * i + 1) = R from by have := unhide HR3; simpa using this)
            clear hb4 HR3
            go_wp2_with fail
            refine (unhide C4).mono ?_
            rintro e w4 ⟨rfl, hi4⟩
            have HI4 := hide hi4
            clear hi4 C4 hm4
            go_wp2
            go_roundw
            case rel => exact ⟨2 * i + 1, HeapM.swapL d l' i (2 * i + 1), by rw [e3], by omega, hide (by rw [HeapM.swap_len]; exact unhide HL), HI4, hide (by rw [downL_fuel d ah n (n - (2 * i + 1) + 1) (n - i) _ _ (by omega) (by omega)]; exact unhide HR4)⟩
            case measure => simp [intOf]; omega
        · have hk2 : kidL d ah n l' i = 2 * i + 2 := by have := unhide HK; simpa using this
          have hr := unhide HR2
          rw [hk2] at hr
          obtain ⟨x2, y2, hb2⟩ := (unhide HH).obj _ _ (unhide HI2)
          have hm2 := m_less g w2 x2 y2 hb2
          have C2 := hide ((unhide HH).less w2 l' x2 y2 (2 * i + 2) i (unhide HI2) hb2 (by have := unhide HL; omega) (by have := unhide HL; omega))
          have e3 : ((2 * i + 2 : Nat) : Int) = 2 * (i : Int) + 1 + 1 := by omega
          rw [e3] at C2
          obtain ⟨c, hc⟩ : ∃ c, ah (HeapM.at' d l' (2 * i + 2)) (HeapM.at' d l' i) = c := ⟨_, rfl⟩
          rw [hc] at C2 hr
          have HR3 := hide hr
          clear hr hc hb2 HR2
          go_wp2_with fail
          refine (unhide C2).mono ?_
          rintro e w3 ⟨rfl, hi3⟩
          have HI3 := hide hi3
          clear hi3 C2 hm2
          cases c
          · go_wp2
            go_ret
            exact ⟨_, rfl, (show l' = R by have := unhide HR3; simpa using this) ▸ unhide HI3⟩
          · obtain ⟨x4, y4, hb4⟩ := (unhide HH).obj _ _ (unhide HI3)
            have hm4 := m_swap g w3 x4 y4 hb4
            have C4 := hide ((unhide HH).swap w3 l' x4 y4 i (2 * i + 2) (unhide HI3) hb4 (by have := unhide HL; omega) (by have := unhide HL; omega))
            rw [e3] at C4
            have HR4 := hide (show downL d ah n (n - i) (HeapM.swapL d l' i (2 * i + 2)) (2 * i + 2) = R from by have := unhide HR3; simpa using this)
            clear hb4 HR3
            go_wp2_with fail
            refine (unhide C4).mono ?_
            rintro e w4 ⟨rfl, hi4⟩
            have HI4 := hide hi4
            clear hi4 C4 hm4
            go_wp2
            go_roundw
            case rel => exact ⟨2 * i + 2, HeapM.swapL d l' i (2 * i + 2), by rw [e3], by omega, hide (by rw [HeapM.swap_len]; exact unhide HL), HI4, hide (by rw [downL_fuel d ah n (n - (2 * i + 2) + 1) (n - i) _ _ (by omega) (by omega)]; exact unhide HR4)⟩
            case measure => simp [intOf]; omega
      · have h3 : ¬ 2 * (i : Int) + 1 + 1 < (n : Int) := by omega
        have hk2 : kidL d ah n l' i = 2 * i + 1 := by unfold kidL; rw [if_neg (by omega)]
        have hr := unhide HR2
        rw [hk2] at hr
        obtain ⟨x2, y2, hb2⟩ := (unhide HH).obj _ _ (unhide HI')
        have hm2 := m_less g wr x2 y2 hb2
        have C2 := hide ((unhide HH).less wr l' x2 y2 (2 * i + 1) i (unhide HI') hb2 (by have := unhide HL; omega) (by have := unhide HL; omega))
        have e3 : ((2 * i + 1 : Nat) : Int) = 2 * (i : Int) + 1 := by omega
        rw [e3] at C2
        obtain ⟨c, hc⟩ : ∃ c, ah (HeapM.at' d l' (2 * i + 1)) (HeapM.at' d l' i) = c := ⟨_, rfl⟩
        rw [hc] at C2 hr
        have HR3 := hide hr
        clear hr hc hb2 HR2
        go_wp2_with fail
        refine (unhide C2).mono ?_
        rintro e w3 ⟨rfl, hi3⟩
        have HI3 := hide hi3
        clear hi3 C2 hm2
        cases c
        · go_wp2
          go_ret
          exact ⟨_, rfl, (show l' = R by have := unhide HR3; simpa using this) ▸ unhide HI3⟩
        · obtain ⟨x4, y4, hb4⟩ := (unhide HH).obj _ _ (unhide HI3)
          have hm4 := m_swap g w3 x4 y4 hb4
          have C4 := hide ((unhide HH).swap w3 l' x4 y4 i (2 * i + 1) (unhide HI3) hb4 (by have := unhide HL; omega) (by have := unhide HL; omega))
          rw [e3] at C4
          have HR4 := hide (show downL d ah n (n - i) (HeapM.swapL d l' i (2 * i + 1)) (2 * i + 1) = R from by have := unhide HR3; simpa using this)
          clear hb4 HR3
          go_wp2_with fail
          refine (unhide C4).mono ?_
          rintro e w4 ⟨rfl, hi4⟩
          have HI4 := hide hi4
          clear hi4 C4 hm4
          go_wp2
          go_roundw
          case rel => exact ⟨2 * i + 1, HeapM.swapL d l' i (2 * i + 1), by rw [e3], by omega, hide (by rw [HeapM.swap_len]; exact unhide HL), HI4, hide (by rw [downL_fuel d ah n (n - (2 * i + 1) + 1) (n - i) _ _ (by omega) (by omega)]; exact unhide HR4)⟩
          case measure => simp [intOf]; omega
theorem upL_len {α : Type} (d : α) (ah : α → α → Bool) : ∀ (f : Nat) (l : List α) (j : Nat), (upL d ah f l j).length = l.length
  | 0, _, _ => rfl
  | f + 1, l, j => by
    rw [upL]
    split
    · rfl
    · split
      · rw [upL_len d ah f, HeapM.swap_len]
      · rfl
theorem downL_len {α : Type} (d : α) (ah : α → α → Bool) (n : Nat) : ∀ (f : Nat) (l : List α) (i : Nat), (downL d ah n f l i).length = l.length
  | 0, _, _ => rfl
  | f + 1, l, i => by
    rw [downL]
    split
    · rfl
    · split
      · rw [downL_len d ah n f, HeapM.swap_len]
      · rfl
set_option maxRecDepth 100000 in
set_option maxHeartbeats 2000000 in
theorem push_any {A : Prop} {α : Type} {d : α} {ah : α → α → Bool} {g : Nat} {HI : World → List α → Prop} {V : World → α → Value → Prop} (H : HeapObj A d ah g HI V) (hA : A) (l : List α) (a : α) (v : Value) (w : World) (h : HI w l) (hv : V w a v) (hl : l.length < 1000000) :
    Calls Tryz.prog 68 #[.iface 55 (.pointer (some ⟨g, 0, none⟩)), v] w fun e w' => e = .returned (.tuple #[]) ∧ HI w' (upL d ah (l.length + 1) (l ++ [a]) l.length) := by
  have HH := hide H
  have hm := m_push g w
  have C1 := hide (H.push hA w l a v h hv hl)
  clear H h hv
  go_enter Tryz.func68, Tryz.ntmps68
  go_wp2_with fail
  refine (unhide C1).mono ?_
  rintro e w2 ⟨rfl, hi2⟩
  obtain ⟨x, y, hb⟩ := (unhide HH).obj _ _ hi2
  have hm2 := m_len g w2 x y hb
  have C2 := (unhide HH).len w2 _ x y hi2 hb
  rw [List.length_append, List.length_singleton] at C2
  have HC2 := hide C2
  clear C2 C1 hm hb hi2
  go_wp2_with fail
  refine (unhide HC2).mono ?_
  rintro e w3 ⟨rfl, hi3⟩
  have C3 := up_any (unhide HH) (l ++ [a]) l.length w3 hi3 (by simp) (by simp; omega)
  have HC3 := hide C3
  have e1 : (((l.length + 1 : Nat) : Int) - 1) = (l.length : Int) := by omega
  clear C3 HC2 hm2 hi3
  go_wp2_with fail
  refine (unhide HC3).mono ?_
  rintro e w4 ⟨rfl, hi4⟩
  have HI4 := hide hi4
  clear hi4
  go_wp2
  go_end0
  exact ⟨rfl, unhide HI4⟩
set_option maxRecDepth 100000 in
set_option maxHeartbeats 2000000 in
theorem pop_any {A : Prop} {α : Type} {d : α} {ah : α → α → Bool} {g : Nat} {HI : World → List α → Prop} {V : World → α → Value → Prop} (H : HeapObj A d ah g HI V) (l : List α) (w : World) (h : HI w l) (h0 : 0 < l.length) (hl : l.length ≤ 1000000) :
    Calls Tryz.prog 69 #[.iface 55 (.pointer (some ⟨g, 0, none⟩))] w fun e w' => (∃ v, e = .returned v ∧ V w' (HeapM.at' d (HeapM.popL d ah l) (l.length - 1)) v) ∧ HI w' ((HeapM.popL d ah l).take (l.length - 1)) := by
  have HH := hide H
  obtain ⟨n, hn⟩ : ∃ n, l.length = n + 1 := ⟨l.length - 1, by omega⟩
  have ep : l.length - 1 = n := by omega
  have en : (((n + 1 : Nat) : Int) - 1) = (n : Int) := by omega
  obtain ⟨x, y, hb⟩ := H.obj _ _ h
  have hm := m_len g w x y hb
  have C1 := H.len w _ x y h hb
  rw [hn] at C1
  have HC1 := hide C1
  have HP := hide (show HeapM.popL d ah l = downL d ah n (n + 1) (HeapM.swapL d l 0 n) 0 by unfold HeapM.popL; rw [ep])
  rw [ep]
  clear H h hb C1
  go_enter Tryz.func69, Tryz.ntmps69
  go_wp2_with fail
  refine (unhide HC1).mono ?_
  rintro e w2 ⟨rfl, hi2⟩
  obtain ⟨x2, y2, hb2⟩ := (unhide HH).obj _ _ hi2
  have hm2 := m_swap g w2 x2 y2 hb2
  have HC2 := hide ((unhide HH).swap w2 l x2 y2 0 n hi2 hb2 (by omega) (by omega))
  clear HC1 hm hb2 hi2
  go_wp2_with fail
  refine (unhide HC2).mono ?_
  rintro e w3 ⟨rfl, hi3⟩
  have HC3 := hide (down_any (unhide HH) _ n w3 hi3 (by rw [HeapM.swap_len]; omega) (by rw [HeapM.swap_len]; omega))
  clear HC2 hm2 hi3
  go_wp2_with fail
  refine (unhide HC3).mono ?_
  rintro e w4 ⟨b, rfl, hi4⟩
  rw [← unhide HP] at hi4
  have e4 : (HeapM.popL d ah l).length = n + 1 := by rw [unhide HP, downL_len, HeapM.swap_len, hn]
  have C4 := (unhide HH).pop w4 _ hi4 (by omega)
  rw [e4] at C4
  have HC4 := hide C4
  have hm4 := m_pop g w4
  clear HC3 hi4 C4
  go_wp2_with fail
  refine (unhide HC4).mono ?_
  rintro e w5 ⟨⟨v, rfl, hv⟩, hi5⟩
  have HI5 := hide hi5
  have HV := hide hv
  clear hi5 hv
  go_wp2
  go_ret
  exact ⟨⟨_, rfl, unhide HV⟩, unhide HI5⟩
end Go.Proofs.YtbgamlegiikggaaGreat
