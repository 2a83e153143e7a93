/-
  The map of applications by a key of name and number: its elements, and what it is known to hold; rows of applications as they stand in memory.
-/
import Derived.Test.YthnkbdjombiodaaGreatKKey
import Derived.Deep.Slices
namespace Go.Proofs.YthnkbdjombiodaaGreat
open Go.RowKit Go.Maps
set_option linter.unusedVariables false

/-- an application as it stands: its number, its queue, where its asks stand -/
structure AV where
  id : Int
  queue : List UInt8
  ao : Option Addr
  len : Nat
  cap : Nat
abbrev avv (v : AV) : Value := .agg #[.int .i64 v.id, .string (bs v.queue), .slice v.ao v.len v.cap]
def AVAt (w : World) (b p : Nat) (v : AV) : Prop :=
  w.cell? ⟨b, p, none⟩ = some (.int .i64 v.id) ∧ w.cell? ⟨b, p + 1, none⟩ = some (.string (bs v.queue)) ∧ w.cell? ⟨b, p + 2, none⟩ = some (.slice v.ao v.len v.cap)
theorem AVAt.lt {w : World} {b p : Nat} {v : AV} (h : AVAt w b p v) : b < w.heap.size := cell_lt h.1
theorem AVAt.below {w w' : World} {b p : Nat} {v : AV} (h : AVAt w b p v) (hb : Below w.heap.size w w') : AVAt w' b p v :=
  ⟨(hb.cell h.lt).trans h.1, (hb.cell h.lt).trans h.2.1, (hb.cell h.lt).trans h.2.2⟩
def AVRow (w : World) (ao : Option Addr) (len : Nat) (l : List AV) : Prop :=
  len = l.length ∧ (len = 0 ∨ ∃ b off, ao = some ⟨b, off, none⟩ ∧ ∀ i (h : i < l.length), AVAt w b (off + i * 3) l[i])
theorem AVRow.below {w w' : World} {ao : Option Addr} {len : Nat} {l : List AV} (h : AVRow w ao len l) (hb : Below w.heap.size w w') : AVRow w' ao len l := by
  obtain ⟨h1, h2⟩ := h
  refine ⟨h1, ?_⟩
  rcases h2 with h2 | ⟨b, off, h3, h4⟩
  · exact .inl h2
  · exact .inr ⟨b, off, h3, fun i h => (h4 i h).below hb⟩
theorem AVRow.at {w : World} {ao : Option Addr} {len : Nat} {l : List AV} (h : AVRow w ao len l) {i : Nat} (hi : i < len) : ∃ b off, ao = some ⟨b, off, none⟩ ∧ ∀ (h : i < l.length), AVAt w b (off + i * 3) l[i] := by
  obtain ⟨h1, h2⟩ := h
  rcases h2 with h2 | ⟨b, off, h3, h4⟩
  · omega
  · exact ⟨b, off, h3, fun hi => h4 i hi⟩
/-- these heads are those of these applications -/
def Heads (w : World) (hs : List AV) (l : List Appl) : Prop :=
  hs.length = l.length ∧ ∀ i (h : i < hs.length) (h' : i < l.length), hs[i].id = l[i].id ∧ hs[i].queue = l[i].queue ∧ AskRow w hs[i].ao hs[i].len l[i].asks ∧ hs[i].len ≤ hs[i].cap
theorem ApplRow.heads {w : World} {ao : Option Addr} {len : Nat} {l : List Appl} (h : ApplRow w ao len l) : ∃ hs, AVRow w ao len hs ∧ Heads w hs l := by
  obtain ⟨h1, h2⟩ := h
  by_cases h0 : len = 0
  · have hl : l = [] := List.length_eq_zero_iff.1 (by omega)
    subst hl
    exact ⟨[], ⟨by simpa using h0, .inl h0⟩, rfl, fun i h => by simp at h⟩
  · rcases h2 with h2 | ⟨b, off, h3, h4⟩
    · exact absurd h2 h0
    · have inh : Inhabited AV := ⟨⟨0, [], none, 0, 0⟩⟩
      obtain ⟨F, hF⟩ := Go.Deep.choose_lt (α := AV) (n := l.length) (p := fun i v => ∀ hi : i < l.length, AVAt w b (off + i * 3) v ∧ v.id = l[i].id ∧ v.queue = l[i].queue ∧ AskRow w v.ao v.len l[i].asks ∧ v.len ≤ v.cap) (fun i hi => by
        obtain ⟨x, y, z, a, c, d, e, f⟩ := h4 i hi
        exact ⟨⟨l[i].id, l[i].queue, x, y, z⟩, fun _ => ⟨⟨a, c, d⟩, rfl, rfl, e, f⟩⟩)
      refine ⟨(List.range l.length).map F, ⟨by simpa using h1, .inr ⟨b, off, h3, fun i hi => ?_⟩⟩, by simp, fun i hi hi' => ?_⟩
      · have hi' : i < l.length := by simpa using hi
        simpa using (hF i hi' hi').1
      · simpa using (hF i hi' hi').2

def addrD : Option Addr → DataW Unit
  | none => .agg []
  | some ⟨b, o, none⟩ => .agg [.lit (.int .i64 b), .lit (.int .i64 o)]
  | some ⟨b, o, some k⟩ => .agg [.lit (.int .i64 b), .lit (.int .i64 o), .lit (.int .i64 k)]
theorem addrD_inj {a b : Option Addr} (h : addrD a = addrD b) : a = b := by
  match a, b with
  | none, none => rfl
  | none, some ⟨x, y, none⟩ => simp [addrD] at h
  | none, some ⟨x, y, some z⟩ => simp [addrD] at h
  | some ⟨x, y, none⟩, none => simp [addrD] at h
  | some ⟨x, y, some z⟩, none => simp [addrD] at h
  | some ⟨x, y, none⟩, some ⟨x', y', none⟩ => simp [addrD] at h; obtain ⟨h1, h2⟩ := h; (have e1 : x = x' := (by omega)); (have e2 : y = y' := (by omega)); subst e1 e2; rfl
  | some ⟨x, y, none⟩, some ⟨x', y', some z'⟩ => simp [addrD] at h
  | some ⟨x, y, some z⟩, some ⟨x', y', none⟩ => simp [addrD] at h
  | some ⟨x, y, some z⟩, some ⟨x', y', some z'⟩ => simp [addrD] at h; obtain ⟨h1, h2, h3⟩ := h; (have e1 : x = x' := (by omega)); (have e2 : y = y' := (by omega)); (have e3 : z = z' := (by omega)); subst e1 e2 e3; rfl
/-- how an application reads -/
def ad (v : AV) : DataW Unit := .agg [.lit (.int .i64 v.id), .lit (.string v.queue), addrD v.ao, .lit (.int .i64 v.len), .lit (.int .i64 v.cap)]
theorem ad_inj {a b : AV} (h : ad a = ad b) : a = b := by
  obtain ⟨a1, a2, a3, a4, a5⟩ := a
  obtain ⟨b1, b2, b3, b4, b5⟩ := b
  simp [ad] at h
  obtain ⟨h1, h2, h3, h4, h5⟩ := h
  have e3 := addrD_inj h3
  have e4 : a4 = b4 := by omega
  have e5 : a5 = b5 := by omega
  subst h1 h2 e3 e4 e5
  rfl
def appElem : Value → Option (DataW Unit × List MemPlace)
  | .agg cs => match cs.toList with
    | [.int .i64 x, .string s, .slice ao len cap] => some (ad ⟨x, s.data.toList, ao, len, cap⟩, [])
    | _ => none
  | _ => none
theorem appElem_mk (v : AV) : appElem (avv v) = some (ad v, []) := by
  obtain ⟨x, qu, ao, len, cap⟩ := v
  simp [appElem, bs]
theorem appElem_shape {v : Value} {y : DataW Unit × List MemPlace} (h : appElem v = some y) : ∃ c, v = avv c := by
  unfold appElem at h
  split at h
  · rename_i cs
    split at h
    · rename_i x s ao len cap e
      have e2 : cs = #[.int .i64 x, .string s, .slice ao len cap] := by cases cs; simpa using e
      exact ⟨⟨x, s.data.toList, ao, len, cap⟩, by rw [e2]; simp [avv, bs_data]⟩
    · cases h
  · cases h
theorem appElem_inv {v : Value} {m : AV} {ps : List MemPlace} (h : appElem v = some (ad m, ps)) : v = avv m := by
  obtain ⟨c, rfl⟩ := appElem_shape h
  rw [appElem_mk] at h
  have := ad_inj (congrArg Prod.fst (Option.some.inj h))
  rw [show c = m from this]
def findA (id : Int) (l : List AV) : Option AV := l.find? (fun v => decide (v.id = id))
theorem findA_id {id : Int} {l : List AV} {v : AV} (h : findA id l = some v) : v.id = id := by simpa using List.find?_some h
/-- the map holds, for every number, the first application of the list that has it, where it is kept -/
def KnownA (l : List AV) (keep : Lit → AV → Bool) (D : DataW Unit) : Prop :=
  (∀ kl, Maps.has D kl = true → ∃ v, findA v.id l = some v ∧ keyOf Tryz.prog 111 (keyv [] v.id) = some kl ∧ ∀ zd, D.atKey kl zd = ad v) ∧
  (∀ v kl, findA v.id l = some v → keyOf Tryz.prog 111 (keyv [] v.id) = some kl → Maps.has D kl = keep kl v)
abbrev allA : Lit → AV → Bool := fun _ _ => true
theorem knownA_empty : KnownA [] allA (.map []) := ⟨fun kl h => by simp [Maps.has] at h, fun v kl h => by simp [findA] at h⟩
theorem KnownA.put {l : List AV} {D : DataW Unit} (h : KnownA l allA D) (hD : IsMap D) {m : AV} {kl : Lit} (hk : keyOf Tryz.prog 111 (keyv [] m.id) = some kl) : KnownA (m :: l) allA (D.put kl (ad m)) := by
  have hne : ∀ (kl' : Lit) (v : AV), kl' ≠ kl → keyOf Tryz.prog 111 (keyv [] v.id) = some kl' → ¬ m.id = v.id := fun kl' v e hv e' => e (by rw [← e'] at hv; rw [hk] at hv; exact (Option.some.inj hv).symm)
  refine ⟨fun kl' hh => ?_, fun v kl' h1 h2 => ?_⟩
  · by_cases e : kl' = kl
    · subst e
      exact ⟨m, by simp [findA], hk, fun zd => atKey_put_same hD (keyLaw.key hk) _ _⟩
    · rw [has_put_other e] at hh
      obtain ⟨v, h1, h2, h3⟩ := h.1 kl' hh
      exact ⟨v, by have := hne kl' v e h2; simpa [findA, this] using h1, h2, fun zd => by rw [atKey_put_other e]; exact h3 zd⟩
  · by_cases e : kl' = kl
    · subst e
      exact has_put_same hD (keyLaw.key hk) _
    · rw [has_put_other e]
      exact h.2 v kl' (by have := hne kl' v e h2; simpa [findA, this] using h1) h2
theorem keyv_inj {a b : Int} {kl : Lit} (h1 : keyOf Tryz.prog 111 (keyv [] a) = some kl) (h2 : keyOf Tryz.prog 111 (keyv [] b) = some kl) : a = b := by
  have := keyLaw.inj h1 h2
  simpa [keyv] using this
theorem KnownA.look {l : List AV} {keep : Lit → AV → Bool} {D : DataW Unit} (h : KnownA l keep D) {id : Int} {kl : Lit} (hk : keyOf Tryz.prog 111 (keyv [] id) = some kl) :
    (findA id l = none → Maps.has D kl = false) ∧ ∀ v, findA id l = some v → Maps.has D kl = keep kl v ∧ (Maps.has D kl = true → ∀ zd, D.atKey kl zd = ad v) := by
  refine ⟨fun hf => ?_, fun v hf => ?_⟩
  · cases hh : Maps.has D kl with
    | false => rfl
    | true =>
      obtain ⟨v, h1, h2, _⟩ := h.1 kl hh
      rw [← keyv_inj hk h2] at h1
      rw [hf] at h1
      cases h1
  · have hv := findA_id hf
    rw [← hv] at hf hk
    refine ⟨h.2 v kl hf hk, fun hh => ?_⟩
    obtain ⟨u, h1, h2, h3⟩ := h.1 kl hh
    have e := keyv_inj hk h2
    rw [← e, hf] at h1
    cases h1
    exact h3
/-- the step of a range that takes an application out that is not kept -/
theorem KnownA.strike {l : List AV} {left : Lit → Bool} {keep : AV → Bool} {D : DataW Unit} (h : KnownA l (fun kl v => left kl || keep v) D) {v : AV} {kl : Lit} (hf : findA v.id l = some v) (hk : keyOf Tryz.prog 111 (keyv [] v.id) = some kl) (hn : keep v = false) :
    KnownA l (fun z u => (left z && !z.sameKey kl) || keep u) (D.del kl) := by
  refine ⟨fun kl' hh => ?_, fun u kl' h1 h2 => ?_⟩
  · by_cases e : kl' = kl
    · subst e
      rw [has_del_same] at hh
      cases hh
    · rw [has_del_other e] at hh
      obtain ⟨u, h1, h2, h3⟩ := h.1 kl' hh
      exact ⟨u, h1, h2, fun zd => by rw [atKey_del_other e]; exact h3 zd⟩
  · by_cases e : kl' = kl
    · subst e
      have e2 := keyv_inj hk h2
      rw [← e2, hf] at h1
      cases h1
      rw [has_del_same]
      simp [hn, WideAt.sameKey_self (keyLaw.key hk)]
    · rw [has_del_other e, h.2 u kl' h1 h2]
      simp [sameKey_ne e]
theorem KnownA.stay {l : List AV} {left : Lit → Bool} {keep : AV → Bool} {D : DataW Unit} (h : KnownA l (fun kl v => left kl || keep v) D) {v : AV} {kl : Lit} (hf : findA v.id l = some v) (hk : keyOf Tryz.prog 111 (keyv [] v.id) = some kl) (hn : keep v = true) :
    KnownA l (fun z u => (left z && !z.sameKey kl) || keep u) D := by
  refine ⟨h.1, fun u kl' h1 h2 => ?_⟩
  by_cases e : kl' = kl
  · subst e
    have e2 := keyv_inj hk h2
    rw [← e2, hf] at h1
    cases h1
    rw [h.2 v kl' hf hk]
    simp [hn]
  · rw [h.2 u kl' h1 h2]
    simp [sameKey_ne e]
def optB (o : Option AV) (f : AV → Bool) : Bool := match o with
  | none => false
  | some v => f v
theorem appZero (w : World) : (zeroValue 81).run Tryz.prog w = .ok (avv ⟨0, [], none, 0, 0⟩) w := by kernel_rfl
/-- what a look-up finds -/
theorem lookA {w : World} {bm n : Nat} {l : List AV} {keep : Lit → AV → Bool} {D : DataW Unit} (hown : w.ownsMap Tryz.prog 111 appElem bm n D) (hk : KnownA l keep D) {id : Int} {kl : Lit} (hkey : keyOf Tryz.prog 111 (keyv [] id) = some kl) :
    ∃ v : AV, (Instr.lookup 104 (.map (some bm)) (keyv [] id) true).run Tryz.prog w = .ok (.tuple #[avv v, .bool (optB (findA id l) (keep kl))]) w ∧ (∀ u, findA id l = some u → keep kl u = true → v = u) ∧ (findA id l = none → v = ⟨0, [], none, 0, 0⟩) := by
  obtain ⟨v, ps, hrun, hv⟩ := hown.look_ok keyLaw Tryz.underlying104 (appZero w) (appElem_mk ⟨0, [], none, 0, 0⟩) hkey
  obtain ⟨h1, h2⟩ := hk.look hkey
  cases hf : findA id l with
  | none =>
    have hh := h1 hf
    rw [atKey_of_not_has hh] at hv
    rw [appElem_inv hv, hh] at hrun
    exact ⟨_, hrun, (fun u e => by cases e), fun _ => rfl⟩
  | some u =>
    obtain ⟨ha, hb⟩ := h2 u hf
    obtain ⟨c, rfl⟩ := appElem_shape hv
    rw [ha] at hrun
    refine ⟨c, hrun, fun u' e hu => ?_, (fun e => by cases e)⟩
    cases e
    rw [hb (ha.trans hu)] at hv
    rw [appElem_mk] at hv
    exact ad_inj (congrArg Prod.fst (Option.some.inj hv))
end Go.Proofs.YthnkbdjombiodaaGreat
