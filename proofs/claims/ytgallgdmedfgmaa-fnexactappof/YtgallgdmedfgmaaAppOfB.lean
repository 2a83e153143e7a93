/-
  The application of a number: AppOf, by the program and by the model; walks over the dump.
-/
import Derived.Test.YtgallgdmedfgmaaARow
import Derived.Test.YtgallgdmedfgmaaAppsI
import Derived.Test.YtgallgdmedfgmaaUsedByM
import Derived.Test.YtgallgdmedfgmaaHeld
namespace Go.Proofs.Ytgallgdmedfgmaa
open Go.RowKit Go.Maps
set_option linter.unusedVariables false

def appOfV (s : St) (id : Int) : Appl × Bool := match findAp id s.apps with
  | none => (⟨0, [], []⟩, false)
  | some a => (a, true)
theorem par_find {id : Int} (P : AV → Appl → Prop) (hid : ∀ v a, P v a → v.id = a.id) : ∀ (hs : List AV) (l : List Appl), hs.length = l.length → (∀ i (h : i < hs.length) (h' : i < l.length), P hs[i] l[i]) →
    (findA id hs = none ∧ findAp id l = none) ∨ ∃ v a, findA id hs = some v ∧ findAp id l = some a ∧ P v a ∧ a ∈ l
  | [], [], _, _ => .inl ⟨rfl, rfl⟩
  | v :: t, a :: r, h1, h2 => by
    have h0 := h2 0 (by simp) (by simp)
    simp only [List.getElem_cons_zero] at h0
    by_cases e : a.id = id
    · have e' : v.id = id := (hid _ _ h0).trans e
      exact .inr ⟨v, a, by simp [findA, e'], by simp [findAp, e], h0, by simp⟩
    · have e' : ¬ v.id = id := fun x => e ((hid _ _ h0).symm.trans x)
      rcases par_find P hid t r (by simpa using h1) (fun i a b => by have := h2 (i + 1) (by simpa using a) (by simpa using b); simpa using this) with ⟨x, y⟩ | ⟨v', a', x, y, z, m⟩
      · exact .inl ⟨by simpa [findA, e'] using x, by simpa [findAp, e] using y⟩
      · exact .inr ⟨v', a', by simpa [findA, e'] using x, by simpa [findAp, e] using y, z, List.mem_cons_of_mem _ m⟩
  | [], a :: r, h1, _ => by simp at h1
  | v :: t, [], h1, _ => by simp at h1
/-- behind the box of a state and the result's variable -/
def appW (w : World) (c : Array Value) : World := (w.alloc (.cells c 46)).alloc (.cells #[.int .i64 0, .string ByteArray.empty, .slice none 0 0] 53)
theorem appW_size (w : World) (c : Array Value) : (appW w c).heap.size = w.heap.size + 1 + 1 := by simp only [appW, al_size]
theorem appW_below (w : World) (c : Array Value) : Below w.heap.size w (appW w c) := below_al (below_al (Below.refl _ w) _) _
theorem appW_box (w : World) (c : Array Value) : Blk (appW w c) w.heap.size c 46 := (blk_new w c _).al _
theorem appW_var (w : World) (c : Array Value) : Blk (appW w c) (w.heap.size + 1) #[.int .i64 0, .string ByteArray.empty, .slice none 0 0] 53 := by
  have := blk_new (w.alloc (.cells c 46)) #[.int .i64 0, .string ByteArray.empty, .slice none 0 0] 53
  rwa [al_size] at this

set_option maxRecDepth 100000 in
set_option maxHeartbeats 4000000 in
theorem implAppOf_any (x : Sls) (s : St) (id : Int) (w : World) (h : SRow w x s) (hf : FitSt s) (hw : ∀ a ∈ s.apps, (Lit.int .i64 a.id).wf = true) (hi : (Lit.int .i64 id).wf = true) :
    Calls Try.prog 19 #[sv x s, .int .i64 id] w fun e w' => ∃ v, e = .returned (.tuple #[.agg #[.int .i64 (appOfV s id).1.id, .string (bs (appOfV s id).1.queue), v], .bool (appOfV s id).2]) ∧ Hid (AOwn w.heap.size w' v (appOfV s id).1.asks ∧ Below w.heap.size w w') := by
  have hal : x.al ≤ 1048576 := by have := h.len.2.1; have := hf.2.1.1; omega
  obtain ⟨hs, hav, hh⟩ := h.2.1.heads
  have hwf : ∀ v ∈ hs, (Lit.int .i64 v.id).wf = true := fun v hv => by
    obtain ⟨i, hi, rfl⟩ := List.mem_iff_getElem.1 hv
    have hi' : i < s.apps.length := by rw [← hh.1]; exact hi
    rw [(hh.2 i hi hi').1]
    exact hw _ (List.getElem_mem _)
  have CM := hide (fun wx (hb : Below w.heap.size w wx) => apps_ex x s hs wx (hav.below hb) hal hwf)
  obtain ⟨kl, hkey⟩ := keyKey (nm := []) (k := id) (by decide) hi
  have HKEY := hide hkey
  have hpf := par_find (id := id) (fun v a => v.id = a.id ∧ v.queue = a.queue ∧ AskRow w v.ao v.len a.asks ∧ v.len ≤ v.cap) (fun v a h => h.1) hs s.apps hh.1 hh.2
  have HPF := hide hpf
  have HFA := hide hf.2.1
  have HAV := hide (show appOfV s id = match findAp id s.apps with | none => (⟨0, [], []⟩, false) | some a => (a, true) from rfl)
  obtain ⟨⟨⟨ai, aq, aas⟩, fo⟩, hap⟩ : ∃ r, appOfV s id = r := ⟨_, rfl⟩
  rw [hap] at HAV ⊢
  clear h hf hw hi hav hh hwf hkey hpf hap
  obtain ⟨qa, ql, qc, aa, al, ac, ma, ml, mc, ca, cl, cc⟩ := x
  obtain ⟨qs, clock, epoch, next, serial, apps, ms, cs⟩ := s
  simp only at CM HPF HFA HAV hal ⊢
  have HB0 := hide (appW_below w (svc ⟨qa, ql, qc, aa, al, ac, ma, ml, mc, ca, cl, cc⟩ ⟨qs, clock, epoch, next, serial, apps, ms, cs⟩))
  have V0 := hide (appW_var w (svc ⟨qa, ql, qc, aa, al, ac, ma, ml, mc, ca, cl, cc⟩ ⟨qs, clock, epoch, next, serial, apps, ms, cs⟩))
  go_enter Try.func19, Try.ntmps19
  go_wp2_with fail
  refine (unhide CM _ (unhide HB0)).mono ?_
  rintro e w1 ⟨bm, rfl, ⟨hbm, D, hown, hk⟩, hb⟩
  have HB1 := hide (below_on (unhide HB0) hb)
  have V1 := hide ((unhide V0).below hb)
  obtain ⟨v, hlk, hv1, hv2⟩ := lookA hown hk (unhide HKEY)
  rcases unhide HPF with ⟨hf1, hf2⟩ | ⟨u, a, hf1, hf2, ⟨hu1, hu2, hu3, hu4⟩, hmem⟩
  · obtain rfl := hv2 hf1
    rw [hf1] at hlk
    rw [hf2] at HAV
    have hz := unhide HAV
    simp only [Prod.mk.injEq, Appl.mk.injEq] at hz
    obtain ⟨⟨rfl, rfl, rfl⟩, rfl⟩ := hz
    have hl2 : (Instr.lookup 87 (.map (some bm)) (.agg #[.string { data := #[] }, .int .i64 id]) true).run Try.prog w1 = .ok (.tuple #[.agg #[.int .i64 0, .string { data := #[] }, .slice none 0 0], .bool false]) w1 := hlk
    have hl3 : (Instr.lookup 87 (.map (some bm)) (.agg #[.string ByteArray.empty, .int .i64 id]) true).run Try.prog w1 = .ok (.tuple #[.agg #[.int .i64 0, .string { data := #[] }, .slice none 0 0], .bool false]) w1 := hlk
    have V2 := (unhide V1).al (.cells #[.int .i64 0, .string { data := #[] }, .slice none 0 0] 53)
    have HV2 := hide V2
    have t0 := V2.at 0
    have t1 := V2.at 1
    have t2 := V2.at 2
    have tf0 := V2.f 0
    have tf1 := V2.f 1
    have tf2 := V2.f 2
    simp at t0 t1 t2
    clear hlk hv1 hv2 hf1 hf2 hown hk hb V2 HPF
    go_wp2
    have X1 := (((unhide HV2).set 0 (.int .i64 0)).set 1 (.string { data := #[] })).set 2 (.slice none 0 0)
    have x0 := X1.at 0
    have x1 := X1.at 1
    have x2 := X1.at 2
    simp at x0 x1 x2
    refine bodyPost_ret (v := .tuple #[.agg #[.int .i64 0, .string { data := #[] }, .slice none 0 0], .bool false]) (by simp [results, Try.results19, go_sem, x0, x1, x2]) rfl ⟨_, rfl, hide ⟨aown_nil _ _, ?_⟩⟩
    exact below_sc (below_sc (below_sc (below_al (unhide HB1) _) _ _ _ (by omega)) _ _ _ (by omega)) _ _ _ (by omega)
  · have hvu := hv1 u hf1 rfl
    subst hvu
    rw [hf1] at hlk
    rw [hf2] at HAV
    have hz := unhide HAV
    simp only [Prod.mk.injEq] at hz
    obtain ⟨hza, rfl⟩ := hz
    subst hza
    obtain ⟨ui, uq, uo, ul, uc⟩ := v
    simp only at hu1 hu2 hu3 hu4
    subst hu1 hu2
    have hfa := (unhide HFA).2 _ hmem
    have hul : ul ≤ 1048576 := by have h1 := hu3.1; have h2 := hfa.2.1; simp only at h2; omega
    have CO := hide (fun wx (hb : Below w.heap.size w wx) => copyOfApp_any ui uq uo ul uc aas wx (hu3.below hb) hul hfa.1 hfa.2.2)
    have hl2 : (Instr.lookup 87 (.map (some bm)) (.agg #[.string { data := #[] }, .int .i64 id]) true).run Try.prog w1 = .ok (.tuple #[.agg #[.int .i64 ui, .string (bs uq), .slice uo ul uc], .bool true]) w1 := hlk
    have hl3 : (Instr.lookup 87 (.map (some bm)) (.agg #[.string ByteArray.empty, .int .i64 id]) true).run Try.prog w1 = .ok (.tuple #[.agg #[.int .i64 ui, .string (bs uq), .slice uo ul uc], .bool true]) w1 := hlk
    have HB2 := hide (below_al (unhide HB1) (.cells #[.int .i64 ui, .string (bs uq), .slice uo ul uc] 53))
    have V2 := hide ((unhide V1).al (.cells #[.int .i64 ui, .string (bs uq), .slice uo ul uc] 53))
    have hs1 : w.heap.size + 1 + 1 ≤ w1.heap.size := by have := hb.size; rw [appW_size] at this; exact this
    clear hlk hv1 hv2 hf1 hf2 hown hk hb HPF hu3 hu4 hmem hfa HAV HB1 V1 HB0 V0 CM HFA
    go_wp2_with fail
    refine (unhide CO _ (unhide HB2)).mono ?_
    rintro e w2 ⟨v, rfl, ho, hb⟩
    have HO := hide (ho.base (B' := w.heap.size + 2) (by rw [al_size]; omega))
    have HV3 := hide ((unhide V2).below hb)
    have HB3 := hide (below_on (unhide HB2) hb)
    obtain ⟨xo, xc, rfl, _⟩ := ho.row
    obtain ⟨n, hnn⟩ : ∃ n, aas.length = n := ⟨_, rfl⟩
    rw [hnn] at HO ⊢
    clear ho hb hnn CO HB2 V2 hl2 hl3
    have t0 := (unhide HV3).at 0
    have t1 := (unhide HV3).at 1
    have t2 := (unhide HV3).at 2
    have tf0 := (unhide HV3).f 0
    have tf1 := (unhide HV3).f 1
    have tf2 := (unhide HV3).f 2
    simp at t0 t1 t2
    go_wp2
    have X1 := (((unhide HV3).set 0 (.int .i64 ui)).set 1 (.string (bs uq))).set 2 (.slice xo n xc)
    have x0 := X1.at 0
    have x1 := X1.at 1
    have x2 := X1.at 2
    simp at x0 x1 x2
    refine bodyPost_ret (v := .tuple #[.agg #[.int .i64 ui, .string (bs uq), .slice xo n xc], .bool true]) (by simp [results, Try.results19, go_sem, x0, x1, x2]) rfl ⟨_, rfl, hide ⟨?_, ?_⟩⟩
    · exact ((((unhide HO).other3 (w.heap.size + 1) 0 (.int .i64 ui) (by omega)).other3 (w.heap.size + 1) 1 (.string (bs uq)) (by omega)).other3 (w.heap.size + 1) 2 (.slice xo n xc) (by omega)).base (by omega)
    · exact below_sc (below_sc (below_sc (unhide HB3) _ _ _ (by omega)) _ _ _ (by omega)) _ _ _ (by omega)
end Go.Proofs.Ytgallgdmedfgmaa
