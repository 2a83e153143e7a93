/-
  Several texts of this claim in one: AKey, MarkP, MarkH, HeldQ, MarkO (pack.py put them together); each says in its own remark what is proved.
-/
import Derived.Test.YtcplnodfcchdhaaGreatPackB
import Derived.Deep.Slices
import Derived.Test.YtcplnodfcchdhaaGreatPackA
import Derived.Deep.RegionHeld3
/-
  The map of applications by a key of name and number: its elements, and what it is known to hold; rows of applications as they stand in memory.
-/
namespace Go.Proofs.YtcplnodfcchdhaaGreat
open Go.RowKit Go.Maps
set_option linter.unusedVariables false
/-- an application as it stands: its number, its queue, where its asks stand -/
structure AV where
  id : Int
  queue : List UInt8
  ao : Option Addr
  len : Nat
  cap : Nat
abbrev avv (v : AV) : Value := .agg #[.int .i64 v.id, .string (bs v.queue), .slice v.ao v.len v.cap]
def AVAt (w : World) (b p : Nat) (v : AV) : Prop :=
  w.cell? ⟨b, p, none⟩ = some (.int .i64 v.id) ∧ w.cell? ⟨b, p + 1, none⟩ = some (.string (bs v.queue)) ∧ w.cell? ⟨b, p + 2, none⟩ = some (.slice v.ao v.len v.cap)
theorem AVAt.lt {w : World} {b p : Nat} {v : AV} (h : AVAt w b p v) : b < w.heap.size := cell_lt h.1
theorem AVAt.below {w w' : World} {b p : Nat} {v : AV} (h : AVAt w b p v) (hb : Below w.heap.size w w') : AVAt w' b p v :=
  ⟨(hb.cell h.lt).trans h.1, (hb.cell h.lt).trans h.2.1, (hb.cell h.lt).trans h.2.2⟩
def AVRow (w : World) (ao : Option Addr) (len : Nat) (l : List AV) : Prop :=
  len = l.length ∧ (len = 0 ∨ ∃ b off, ao = some ⟨b, off, none⟩ ∧ ∀ i (h : i < l.length), AVAt w b (off + i * 3) l[i])
theorem AVRow.below {w w' : World} {ao : Option Addr} {len : Nat} {l : List AV} (h : AVRow w ao len l) (hb : Below w.heap.size w w') : AVRow w' ao len l := by
  obtain ⟨h1, h2⟩ := h
  refine ⟨h1, ?_⟩
  rcases h2 with h2 | ⟨b, off, h3, h4⟩
  · exact .inl h2
  · exact .inr ⟨b, off, h3, fun i h => (h4 i h).below hb⟩
theorem AVRow.at {w : World} {ao : Option Addr} {len : Nat} {l : List AV} (h : AVRow w ao len l) {i : Nat} (hi : i < len) : ∃ b off, ao = some ⟨b, off, none⟩ ∧ ∀ (h : i < l.length), AVAt w b (off + i * 3) l[i] := by
  obtain ⟨h1, h2⟩ := h
  rcases h2 with h2 | ⟨b, off, h3, h4⟩
  · omega
  · exact ⟨b, off, h3, fun hi => h4 i hi⟩
/-- these heads are those of these applications -/
def Heads (w : World) (hs : List AV) (l : List Appl) : Prop :=
  hs.length = l.length ∧ ∀ i (h : i < hs.length) (h' : i < l.length), hs[i].id = l[i].id ∧ hs[i].queue = l[i].queue ∧ AskRow w hs[i].ao hs[i].len l[i].asks ∧ hs[i].len ≤ hs[i].cap
theorem ApplRow.heads {w : World} {ao : Option Addr} {len : Nat} {l : List Appl} (h : ApplRow w ao len l) : ∃ hs, AVRow w ao len hs ∧ Heads w hs l := by
  obtain ⟨h1, h2⟩ := h
  by_cases h0 : len = 0
  · have hl : l = [] := List.length_eq_zero_iff.1 (by omega)
    subst hl
    exact ⟨[], ⟨by simpa using h0, .inl h0⟩, rfl, fun i h => by simp at h⟩
  · rcases h2 with h2 | ⟨b, off, h3, h4⟩
    · exact absurd h2 h0
    · have inh : Inhabited AV := ⟨⟨0, [], none, 0, 0⟩⟩
      obtain ⟨F, hF⟩ := Go.Deep.choose_lt (α := AV) (n := l.length) (p := fun i v => ∀ hi : i < l.length, AVAt w b (off + i * 3) v ∧ v.id = l[i].id ∧ v.queue = l[i].queue ∧ AskRow w v.ao v.len l[i].asks ∧ v.len ≤ v.cap) (fun i hi => by
        obtain ⟨x, y, z, a, c, d, e, f⟩ := h4 i hi
        exact ⟨⟨l[i].id, l[i].queue, x, y, z⟩, fun _ => ⟨⟨a, c, d⟩, rfl, rfl, e, f⟩⟩)
      refine ⟨(List.range l.length).map F, ⟨by simpa using h1, .inr ⟨b, off, h3, fun i hi => ?_⟩⟩, by simp, fun i hi hi' => ?_⟩
      · have hi' : i < l.length := by simpa using hi
        simpa using (hF i hi' hi').1
      · simpa using (hF i hi' hi').2

def addrD : Option Addr → DataW Unit
  | none => .agg []
  | some ⟨b, o, none⟩ => .agg [.lit (.int .i64 b), .lit (.int .i64 o)]
  | some ⟨b, o, some k⟩ => .agg [.lit (.int .i64 b), .lit (.int .i64 o), .lit (.int .i64 k)]
theorem addrD_inj {a b : Option Addr} (h : addrD a = addrD b) : a = b := by
  match a, b with
  | none, none => rfl
  | none, some ⟨x, y, none⟩ => simp [addrD] at h
  | none, some ⟨x, y, some z⟩ => simp [addrD] at h
  | some ⟨x, y, none⟩, none => simp [addrD] at h
  | some ⟨x, y, some z⟩, none => simp [addrD] at h
  | some ⟨x, y, none⟩, some ⟨x', y', none⟩ => simp [addrD] at h; obtain ⟨h1, h2⟩ := h; (have e1 : x = x' := (by omega)); (have e2 : y = y' := (by omega)); subst e1 e2; rfl
  | some ⟨x, y, none⟩, some ⟨x', y', some z'⟩ => simp [addrD] at h
  | some ⟨x, y, some z⟩, some ⟨x', y', none⟩ => simp [addrD] at h
  | some ⟨x, y, some z⟩, some ⟨x', y', some z'⟩ => simp [addrD] at h; obtain ⟨h1, h2, h3⟩ := h; (have e1 : x = x' := (by omega)); (have e2 : y = y' := (by omega)); (have e3 : z = z' := (by omega)); subst e1 e2 e3; rfl
/-- how an application reads -/
def ad (v : AV) : DataW Unit := .agg [.lit (.int .i64 v.id), .lit (.string v.queue), addrD v.ao, .lit (.int .i64 v.len), .lit (.int .i64 v.cap)]
theorem ad_inj {a b : AV} (h : ad a = ad b) : a = b := by
  obtain ⟨a1, a2, a3, a4, a5⟩ := a
  obtain ⟨b1, b2, b3, b4, b5⟩ := b
  simp [ad] at h
  obtain ⟨h1, h2, h3, h4, h5⟩ := h
  have e3 := addrD_inj h3
  have e4 : a4 = b4 := by omega
  have e5 : a5 = b5 := by omega
  subst h1 h2 e3 e4 e5
  rfl
def appElem : Value → Option (DataW Unit × List MemPlace)
  | .agg cs => match cs.toList with
    | [.int .i64 x, .string s, .slice ao len cap] => some (ad ⟨x, s.data.toList, ao, len, cap⟩, [])
    | _ => none
  | _ => none
theorem appElem_mk (v : AV) : appElem (avv v) = some (ad v, []) := by
  obtain ⟨x, qu, ao, len, cap⟩ := v
  simp [appElem, bs]
theorem appElem_shape {v : Value} {y : DataW Unit × List MemPlace} (h : appElem v = some y) : ∃ c, v = avv c := by
  unfold appElem at h
  split at h
  · rename_i cs
    split at h
    · rename_i x s ao len cap e
      have e2 : cs = #[.int .i64 x, .string s, .slice ao len cap] := by cases cs; simpa using e
      exact ⟨⟨x, s.data.toList, ao, len, cap⟩, by rw [e2]; simp [avv, bs_data]⟩
    · cases h
  · cases h
theorem appElem_inv {v : Value} {m : AV} {ps : List MemPlace} (h : appElem v = some (ad m, ps)) : v = avv m := by
  obtain ⟨c, rfl⟩ := appElem_shape h
  rw [appElem_mk] at h
  have := ad_inj (congrArg Prod.fst (Option.some.inj h))
  rw [show c = m from this]
def findA (id : Int) (l : List AV) : Option AV := l.find? (fun v => decide (v.id = id))
theorem findA_id {id : Int} {l : List AV} {v : AV} (h : findA id l = some v) : v.id = id := by simpa using List.find?_some h
/-- the map holds, for every number, the first application of the list that has it, where it is kept -/
def KnownA (l : List AV) (keep : Lit → AV → Bool) (D : DataW Unit) : Prop :=
  (∀ kl, Maps.has D kl = true → ∃ v, findA v.id l = some v ∧ keyOf Tryz.prog 69 (keyv [] v.id) = some kl ∧ ∀ zd, D.atKey kl zd = ad v) ∧
  (∀ v kl, findA v.id l = some v → keyOf Tryz.prog 69 (keyv [] v.id) = some kl → Maps.has D kl = keep kl v)
abbrev allA : Lit → AV → Bool := fun _ _ => true
theorem knownA_empty : KnownA [] allA (.map []) := ⟨fun kl h => by simp [Maps.has] at h, fun v kl h => by simp [findA] at h⟩
theorem KnownA.put {l : List AV} {D : DataW Unit} (h : KnownA l allA D) (hD : IsMap D) {m : AV} {kl : Lit} (hk : keyOf Tryz.prog 69 (keyv [] m.id) = some kl) : KnownA (m :: l) allA (D.put kl (ad m)) := by
  have hne : ∀ (kl' : Lit) (v : AV), kl' ≠ kl → keyOf Tryz.prog 69 (keyv [] v.id) = some kl' → ¬ m.id = v.id := fun kl' v e hv e' => e (by rw [← e'] at hv; rw [hk] at hv; exact (Option.some.inj hv).symm)
  refine ⟨fun kl' hh => ?_, fun v kl' h1 h2 => ?_⟩
  · by_cases e : kl' = kl
    · subst e
      exact ⟨m, by simp [findA], hk, fun zd => atKey_put_same hD (keyLaw.key hk) _ _⟩
    · rw [has_put_other e] at hh
      obtain ⟨v, h1, h2, h3⟩ := h.1 kl' hh
      exact ⟨v, by have := hne kl' v e h2; simpa [findA, this] using h1, h2, fun zd => by rw [atKey_put_other e]; exact h3 zd⟩
  · by_cases e : kl' = kl
    · subst e
      exact has_put_same hD (keyLaw.key hk) _
    · rw [has_put_other e]
      exact h.2 v kl' (by have := hne kl' v e h2; simpa [findA, this] using h1) h2
theorem keyv_inj {a b : Int} {kl : Lit} (h1 : keyOf Tryz.prog 69 (keyv [] a) = some kl) (h2 : keyOf Tryz.prog 69 (keyv [] b) = some kl) : a = b := by
  have := keyLaw.inj h1 h2
  simpa [keyv] using this
theorem KnownA.look {l : List AV} {keep : Lit → AV → Bool} {D : DataW Unit} (h : KnownA l keep D) {id : Int} {kl : Lit} (hk : keyOf Tryz.prog 69 (keyv [] id) = some kl) :
    (findA id l = none → Maps.has D kl = false) ∧ ∀ v, findA id l = some v → Maps.has D kl = keep kl v ∧ (Maps.has D kl = true → ∀ zd, D.atKey kl zd = ad v) := by
  refine ⟨fun hf => ?_, fun v hf => ?_⟩
  · cases hh : Maps.has D kl with
    | false => rfl
    | true =>
      obtain ⟨v, h1, h2, _⟩ := h.1 kl hh
      rw [← keyv_inj hk h2] at h1
      rw [hf] at h1
      cases h1
  · have hv := findA_id hf
    rw [← hv] at hf hk
    refine ⟨h.2 v kl hf hk, fun hh => ?_⟩
    obtain ⟨u, h1, h2, h3⟩ := h.1 kl hh
    have e := keyv_inj hk h2
    rw [← e, hf] at h1
    cases h1
    exact h3
/-- the step of a range that takes an application out that is not kept -/
theorem KnownA.strike {l : List AV} {left : Lit → Bool} {keep : AV → Bool} {D : DataW Unit} (h : KnownA l (fun kl v => left kl || keep v) D) {v : AV} {kl : Lit} (hf : findA v.id l = some v) (hk : keyOf Tryz.prog 69 (keyv [] v.id) = some kl) (hn : keep v = false) :
    KnownA l (fun z u => (left z && !z.sameKey kl) || keep u) (D.del kl) := by
  refine ⟨fun kl' hh => ?_, fun u kl' h1 h2 => ?_⟩
  · by_cases e : kl' = kl
    · subst e
      rw [has_del_same] at hh
      cases hh
    · rw [has_del_other e] at hh
      obtain ⟨u, h1, h2, h3⟩ := h.1 kl' hh
      exact ⟨u, h1, h2, fun zd => by rw [atKey_del_other e]; exact h3 zd⟩
  · by_cases e : kl' = kl
    · subst e
      have e2 := keyv_inj hk h2
      rw [← e2, hf] at h1
      cases h1
      rw [has_del_same]
      simp [hn, WideAt.sameKey_self (keyLaw.key hk)]
    · rw [has_del_other e, h.2 u kl' h1 h2]
      simp [sameKey_ne e]
theorem KnownA.stay {l : List AV} {left : Lit → Bool} {keep : AV → Bool} {D : DataW Unit} (h : KnownA l (fun kl v => left kl || keep v) D) {v : AV} {kl : Lit} (hf : findA v.id l = some v) (hk : keyOf Tryz.prog 69 (keyv [] v.id) = some kl) (hn : keep v = true) :
    KnownA l (fun z u => (left z && !z.sameKey kl) || keep u) D := by
  refine ⟨h.1, fun u kl' h1 h2 => ?_⟩
  by_cases e : kl' = kl
  · subst e
    have e2 := keyv_inj hk h2
    rw [← e2, hf] at h1
    cases h1
    rw [h.2 v kl' hf hk]
    simp [hn]
  · rw [h.2 u kl' h1 h2]
    simp [sameKey_ne e]
def optB (o : Option AV) (f : AV → Bool) : Bool := match o with
  | none => false
  | some v => f v
theorem appZero (w : World) : (zeroValue 41).run Tryz.prog w = .ok (avv ⟨0, [], none, 0, 0⟩) w := by kernel_rfl
/-- what a look-up finds -/
theorem lookA {w : World} {bm n : Nat} {l : List AV} {keep : Lit → AV → Bool} {D : DataW Unit} (hown : w.ownsMap Tryz.prog 69 appElem bm n D) (hk : KnownA l keep D) {id : Int} {kl : Lit} (hkey : keyOf Tryz.prog 69 (keyv [] id) = some kl) :
    ∃ v : AV, (Instr.lookup 77 (.map (some bm)) (keyv [] id) true).run Tryz.prog w = .ok (.tuple #[avv v, .bool (optB (findA id l) (keep kl))]) w ∧ (∀ u, findA id l = some u → keep kl u = true → v = u) ∧ (findA id l = none → v = ⟨0, [], none, 0, 0⟩) := by
  obtain ⟨v, ps, hrun, hv⟩ := hown.look_ok keyLaw Tryz.underlying77 (appZero w) (appElem_mk ⟨0, [], none, 0, 0⟩) hkey
  obtain ⟨h1, h2⟩ := hk.look hkey
  cases hf : findA id l with
  | none =>
    have hh := h1 hf
    rw [atKey_of_not_has hh] at hv
    rw [appElem_inv hv, hh] at hrun
    exact ⟨_, hrun, (fun u e => by cases e), fun _ => rfl⟩
  | some u =>
    obtain ⟨ha, hb⟩ := h2 u hf
    obtain ⟨c, rfl⟩ := appElem_shape hv
    rw [ha] at hrun
    refine ⟨c, hrun, fun u' e hu => ?_, (fun e => by cases e)⟩
    cases e
    rw [hb (ha.trans hu)] at hv
    rw [appElem_mk] at hv
    exact ad_inj (congrArg Prod.fst (Option.some.inj hv))
end Go.Proofs.YtcplnodfcchdhaaGreat

/-
  The laws' own markAppS and heldAppS over applications whose asks lie in blocks of their own: what is marked, and found again; walks over the dump.
-/
namespace Go.Proofs.YtcplnodfcchdhaaGreat
open Go.RowKit
set_option linter.unusedVariables false
/-- the number behind the marks of these applications -/
def endM : Nat → List AV → Nat
  | K, [] => K
  | K, v :: t => endM (K + 2 + 5 * v.len) t
/-- the heads as they are marked from K on -/
def hsM : Nat → List AV → List AV
  | _, [] => []
  | K, v :: t => ⟨(K : Int), 109 :: dgs (K + 1), v.ao, v.len, v.cap⟩ :: hsM (K + 2 + 5 * v.len) t
/-- the asks bear their marks -/
def AsksM (w : World) : Nat → List AV → Prop
  | _, [] => True
  | K, v :: t => AskRow w v.ao v.len (marksA (K + 2) v.len) ∧ AsksM w (K + 2 + 5 * v.len) t
theorem AsksM.below {w w' : World} (hb : Below w.heap.size w w') : ∀ (l : List AV) (K : Nat), AsksM w K l → AsksM w' K l
  | [], _, _ => trivial
  | v :: t, K, h => ⟨h.1.below hb, AsksM.below hb t _ h.2⟩
theorem endM_ge : ∀ (l : List AV) (K : Nat), K ≤ endM K l
  | [], K => Nat.le_refl _
  | v :: t, K => by have := endM_ge t (K + 2 + 5 * v.len); rw [endM]; omega
/-- one application's head stands; of w0 nothing has turned -/
def AVOne (w0 : World) (b p : Nat) (q : AV) (w : World) : Prop := AVAt w b p q ∧ Below w0.heap.size w0 w
theorem AVOne.call {w0 w w' : World} {b p : Nat} {q : AV} (h : AVOne w0 b p q w) (hb : Below w.heap.size w w') : AVOne w0 b p q w' := ⟨h.1.below hb, below_on h.2 hb⟩
theorem AVOne.drew {w0 w : World} {b p : Nat} {q : AV} (h : AVOne w0 b p q w) : AVOne w0 b p q w.drew := h.call (Below.refl _ _).drew
theorem AVOne.read (w0 : World) (b p : Nat) (q : AV) : ∀ wx, AVOne w0 b p q wx → wx.cell? ⟨b, p, none⟩ = some (.int .i64 q.id) ∧ wx.cell? ⟨b, p + 1, none⟩ = some (.string (bs q.queue)) ∧ wx.cell? ⟨b, p + 2, none⟩ = some (.slice q.ao q.len q.cap) := fun wx h => h.1

end Go.Proofs.YtcplnodfcchdhaaGreat

/-
  The laws' own markQueueS and heldQueueS: what is marked in a row of queues, and found again; walks over the dump.
-/
namespace Go.Proofs.YtcplnodfcchdhaaGreat
open Go.RowKit
set_option linter.unusedVariables false
/-- the queue of marks at place j -/
def markQ (j : Nat) : Q := ⟨109 :: dgs (1 + 4 * j), 109 :: dgs (1 + 4 * j + 1), 1 + 4 * (j : Int) + 1 + 1, 1 + 4 * (j : Int) + 1 + 1 + 1⟩
def marksQ (n : Nat) : List Q := (List.range n).map markQ
theorem QBlk.next {w : World} {t : TypeId} {g n k : Nat} {l : List Q} (h : QBlk w t g n k l) (c : ∀ hk : k < l.length, QAt w g (k * 4) l[k]) : QBlk w t g n (k + 1) l := by
  obtain ⟨arr, h1, h2, h3⟩ := h
  refine ⟨arr, h1, h2, fun i hi hik => ?_⟩
  by_cases e : i = k
  · subst e
    obtain ⟨c0, c1, c2, c3⟩ := c hi
    simp [World.cell?, h1] at c0 c1 c2 c3
    exact ⟨c0, c1, c2, c3⟩
  · exact h3 i hi (by omega)
theorem cell_keep {w : World} {g p q : Nat} {u v : Value} (h : w.cell? ⟨g, p, none⟩ = some u) (hne : q ≠ p) : (w.setCell ⟨g, q, none⟩ v).cell? ⟨g, p, none⟩ = some u :=
  (World.cell?_setCell_other _ _ _ _ (fun e => hne (congrArg Addr.off e))).trans h
end Go.Proofs.YtcplnodfcchdhaaGreat

/-
  The laws' own heldQueueS: the marks are found again; a walk over the dump.
-/
namespace Go.Proofs.YtcplnodfcchdhaaGreat
open Go.RowKit
set_option linter.unusedVariables false
/-- a queue stands at a place; of w0 nothing has turned -/
def QOne (w0 : World) (b p : Nat) (q : Q) (w : World) : Prop := QAt w b p q ∧ Below w0.heap.size w0 w
theorem QOne.call {w0 w w' : World} {b p : Nat} {q : Q} (h : QOne w0 b p q w) (hb : Below w.heap.size w w') : QOne w0 b p q w' := ⟨h.1.below hb, below_on h.2 hb⟩
theorem QOne.drew {w0 w : World} {b p : Nat} {q : Q} (h : QOne w0 b p q w) : QOne w0 b p q w.drew := h.call (Below.refl _ _).drew
theorem QOne.read (w0 : World) (b p : Nat) (q : Q) : ∀ wx, QOne w0 b p q wx → wx.cell? ⟨b, p, none⟩ = some (.string (bs q.name)) ∧ wx.cell? ⟨b, p + 1, none⟩ = some (.string (bs q.parent)) ∧ wx.cell? ⟨b, p + 2, none⟩ = some (.int .i64 q.due) ∧ wx.cell? ⟨b, p + 3, none⟩ = some (.int .i64 q.most) :=
  fun wx h => ⟨h.1.1, h.1.2.1, h.1.2.2.1, h.1.2.2.2⟩
end Go.Proofs.YtcplnodfcchdhaaGreat

/-
  Rows that an answer owns; what the laws' own marks turn in them, and leave alone; walks over the dump.
-/
namespace Go.Proofs.YtcplnodfcchdhaaGreat
open Go.RowKit
set_option linter.unusedVariables false
theorem Cel.type {w : World} {t t' : TypeId} {g N N' : Nat} (h : Cel w t g N) (h' : Cel w t' g N') : t = t' := by
  obtain ⟨a, h1, _⟩ := h
  obtain ⟨b, h2, _⟩ := h'
  rw [h1] at h2
  cases h2
  rfl
/-- of all that was there nothing has turned but cells of the blocks of S -/
structure Mks (S : Nat → Prop) (w w' : World) : Prop where
  os : w'.os = w.os
  tape : w'.tape = w.tape
  output : w'.output = w.output
  size : w.heap.size ≤ w'.heap.size
  block : ∀ k, k < w.heap.size → ¬ S k → w'.heap[k]? = w.heap[k]?
  cel : ∀ t g N, Cel w t g N → Cel w' t g N
theorem Mks.refl (S : Nat → Prop) (w : World) : Mks S w w := ⟨rfl, rfl, rfl, Nat.le_refl _, fun _ _ _ => rfl, fun _ _ _ h => h⟩
theorem Mks.trans {S : Nat → Prop} {a b c : World} (h : Mks S a b) (k : Mks S b c) : Mks S a c :=
  ⟨k.os.trans h.os, k.tape.trans h.tape, k.output.trans h.output, Nat.le_trans h.size k.size, fun i hi ho => (k.block i (Nat.lt_of_lt_of_le hi h.size) ho).trans (h.block i hi ho), fun t g N x => k.cel t g N (h.cel t g N x)⟩
theorem Mks.mono {S S' : Nat → Prop} {a b : World} (h : Mks S a b) (hs : ∀ k, S k → S' k) : Mks S' a b :=
  ⟨h.os, h.tape, h.output, h.size, fun i hi ho => h.block i hi (fun hk => ho (hs i hk)), h.cel⟩
theorem Mks.of_below {S : Nat → Prop} {w w' : World} (hb : Below w.heap.size w w') : Mks S w w' := ⟨hb.os, hb.tape, hb.output, hb.size, fun i hi _ => hb.block i hi, fun t g N x => x.below hb⟩
theorem Mks.on {S : Nat → Prop} {a w w' : World} (h : Mks S a w) (hb : Below w.heap.size w w') : Mks S a w' := h.trans (.of_below hb)
theorem Mks.one (S : Nat → Prop) (w : World) (g j : Nat) (v : Value) (hg : S g) : Mks S w (w.setCell ⟨g, j, none⟩ v) :=
  ⟨rfl, rfl, rfl, by simp [World.setCell], fun k _ ho => Below.heap_setCell _ _ _ _ (by show k ≠ g; intro e; exact ho (e ▸ hg)), fun t g' N x => x.set g j v⟩
theorem Mks.sc {S : Nat → Prop} {a w : World} (h : Mks S a w) (g j : Nat) (v : Value) (hg : S g) : Mks S a (w.setCell ⟨g, j, none⟩ v) := h.trans (.one S w g j v hg)
theorem Mkd.mks {g : Nat} {w w' : World} (h : Mkd g (g + 1) w w') : Mks (fun k => k = g) w w' := ⟨h.os, h.tape, h.output, h.size, fun i hi ho => h.block i hi (by omega), h.cel⟩
theorem Mks.below {S : Nat → Prop} {B : Nat} {a w : World} (h : Mks S a w) (hS : ∀ k, S k → B ≤ k) (hB : B ≤ a.heap.size) : Below B a w :=
  ⟨h.os, h.tape, h.output, h.size, fun k hk => h.block k (by omega) (fun hs => by have := hS k hs; omega)⟩
theorem Mks.blk {S : Nat → Prop} {g : Nat} {a w : World} {arr : Array Value} {t : TypeId} (h : Mks S a w) (hb : Blk a g arr t) (ho : ¬ S g) : Blk w g arr t := (h.block g hb.lt ho).trans hb

/-- the block of a row of n things -/
def inR (ao : Option Addr) (n : Nat) (k : Nat) : Prop := n ≠ 0 ∧ ∃ o, ao = some ⟨k, o, none⟩
/-- a row of n things of sz cells in a block of its own, from B on and below E -/
def Own1 (B E : Nat) (w : World) (t : TypeId) (sz : Nat) (ao : Option Addr) (n : Nat) : Prop := n = 0 ∨ ∃ g M, ao = some ⟨g, 0, none⟩ ∧ B ≤ g ∧ g < E ∧ Cel w t g (M * sz) ∧ n ≤ M
/-- a row that is owned has room for as many as its capacity says -/
theorem own1_of {w : World} {B sz n n' c : Nat} {e : TypeId} {ao : Option Addr} {xs : List Value} (h : w.ownsRow B e sz (.slice ao n c) n' xs) : Own1 B w.heap.size w e sz ao c := by
  rcases h.2 with ⟨h1, _⟩ | ⟨g, cap, cur, h1, h2, h3, _, _, h4, _⟩
  · cases h1; exact .inl rfl
  · cases h1; exact .inr ⟨g, c, rfl, h2, lt_of_block h3, ⟨cur, h3, h4⟩, Nat.le_refl _⟩
theorem Own1.below {B E : Nat} {w w' : World} {t : TypeId} {sz n : Nat} {ao : Option Addr} (h : Own1 B E w t sz ao n) (hb : Below w.heap.size w w') : Own1 B E w' t sz ao n := by
  rcases h with h | ⟨g, M, h1, h2, h3, h4, h5⟩
  · exact .inl h
  · exact .inr ⟨g, M, h1, h2, h3, h4.below hb, h5⟩
theorem Own1.mks {B E : Nat} {w w' : World} {t : TypeId} {sz n : Nat} {ao : Option Addr} {S : Nat → Prop} (h : Own1 B E w t sz ao n) (hb : Mks S w w') : Own1 B E w' t sz ao n := by
  rcases h with h | ⟨g, M, h1, h2, h3, h4, h5⟩
  · exact .inl h
  · exact .inr ⟨g, M, h1, h2, h3, hb.cel _ _ _ h4, h5⟩
theorem Own1.sc {B E : Nat} {w : World} {t : TypeId} {sz n : Nat} {ao : Option Addr} (h : Own1 B E w t sz ao n) (k j : Nat) (v : Value) : Own1 B E (w.setCell ⟨k, j, none⟩ v) t sz ao n := by
  rcases h with h | ⟨g, M, h1, h2, h3, h4, h5⟩
  · exact .inl h
  · exact .inr ⟨g, M, h1, h2, h3, h4.set k j v, h5⟩
theorem Own1.mono {B E B' E' : Nat} {w : World} {t : TypeId} {sz n : Nat} {ao : Option Addr} (h : Own1 B E w t sz ao n) (h1 : B' ≤ B) (h2 : E ≤ E') : Own1 B' E' w t sz ao n := by
  rcases h with h | ⟨g, M, a, b, c, d⟩
  · exact .inl h
  · exact .inr ⟨g, M, a, by omega, by omega, d⟩
theorem Own1.lies {B E : Nat} {w : World} {t : TypeId} {sz n : Nat} {ao : Option Addr} (h : Own1 B E w t sz ao n) : ∀ k, inR ao n k → B ≤ k ∧ k < E ∧ ∃ N, Cel w t k N := by
  rintro k ⟨hn, o, e⟩
  rcases h with h | ⟨g, M, h1, h2, h3, h4, h5⟩
  · exact absurd h hn
  · rw [h1] at e
    cases e
    exact ⟨h2, h3, _, h4⟩
/-- rows of two types lie apart -/
theorem Own1.apart {B E B' E' : Nat} {w : World} {t t' : TypeId} {sz sz' n n' : Nat} {ao bo : Option Addr} (h : Own1 B E w t sz ao n) (h' : Own1 B' E' w t' sz' bo n') (ht : t ≠ t') : ∀ k, inR ao n k → ¬ inR bo n' k := fun k hk hk' => by
  obtain ⟨_, _, N, h1⟩ := h.lies k hk
  obtain ⟨_, _, N', h2⟩ := h'.lies k hk'
  exact ht (h1.type h2)

theorem cellMks {S : Nat → Prop} {w w' : World} {g p : Nat} {u : Value} (h : w.cell? ⟨g, p, none⟩ = some u) (hm : Mks S w w') (hg : ¬ S g) : w'.cell? ⟨g, p, none⟩ = some u :=
  (World.cell?_of_block (w := w) (a := ⟨g, p, none⟩) (hm.block g (cell_lt h) hg)).trans h
theorem QRow.mks {S : Nat → Prop} {w w' : World} {ao : Option Addr} {len : Nat} {l : List Q} (h : QRow w ao len l) (hm : Mks S w w') (hs : ∀ k, inR ao len k → ¬ S k) : QRow w' ao len l := by
  obtain ⟨h1, h2⟩ := h
  refine ⟨h1, ?_⟩
  rcases h2 with h2 | ⟨b, off, h3, h4⟩
  · exact .inl h2
  · by_cases hz : len = 0
    · exact .inl hz
    · have hb := hs b ⟨hz, off, h3⟩
      exact .inr ⟨b, off, h3, fun i h => let ⟨a, c, d, e⟩ := h4 i h; ⟨cellMks a hm hb, cellMks c hm hb, cellMks d hm hb, cellMks e hm hb⟩⟩
theorem MacRow.mks {S : Nat → Prop} {w w' : World} {ao : Option Addr} {len : Nat} {l : List Mac} (h : MacRow w ao len l) (hm : Mks S w w') (hs : ∀ k, inR ao len k → ¬ S k) : MacRow w' ao len l := by
  obtain ⟨h1, h2⟩ := h
  refine ⟨h1, ?_⟩
  rcases h2 with h2 | ⟨b, off, h3, h4⟩
  · exact .inl h2
  · by_cases hz : len = 0
    · exact .inl hz
    · have hb := hs b ⟨hz, off, h3⟩
      exact .inr ⟨b, off, h3, fun i h => let ⟨a, c, d, e⟩ := h4 i h; ⟨cellMks a hm hb, cellMks c hm hb, cellMks d hm hb, cellMks e hm hb⟩⟩
theorem ConRow.mks {S : Nat → Prop} {w w' : World} {ao : Option Addr} {len : Nat} {l : List Con} (h : ConRow w ao len l) (hm : Mks S w w') (hs : ∀ k, inR ao len k → ¬ S k) : ConRow w' ao len l := by
  obtain ⟨h1, h2⟩ := h
  refine ⟨h1, ?_⟩
  rcases h2 with h2 | ⟨b, off, h3, h4⟩
  · exact .inl h2
  · by_cases hz : len = 0
    · exact .inl hz
    · have hb := hs b ⟨hz, off, h3⟩
      exact .inr ⟨b, off, h3, fun i h => let ⟨a, c, d, e, f⟩ := h4 i h; ⟨cellMks a hm hb, cellMks c hm hb, cellMks d hm hb, cellMks e hm hb, cellMks f hm hb⟩⟩
theorem AskRow.mks {S : Nat → Prop} {w w' : World} {ao : Option Addr} {len : Nat} {l : List Ask} (h : AskRow w ao len l) (hm : Mks S w w') (hs : ∀ k, inR ao len k → ¬ S k) : AskRow w' ao len l := by
  obtain ⟨h1, h2⟩ := h
  refine ⟨h1, ?_⟩
  rcases h2 with h2 | ⟨b, off, h3, h4⟩
  · exact .inl h2
  · by_cases hz : len = 0
    · exact .inl hz
    · have hb := hs b ⟨hz, off, h3⟩
      exact .inr ⟨b, off, h3, fun i h => let ⟨a, c, d, e, f⟩ := h4 i h; ⟨cellMks a hm hb, cellMks c hm hb, cellMks d hm hb, cellMks e hm hb, cellMks f hm hb⟩⟩
theorem AVRow.mks {S : Nat → Prop} {w w' : World} {ao : Option Addr} {len : Nat} {l : List AV} (h : AVRow w ao len l) (hm : Mks S w w') (hs : ∀ k, inR ao len k → ¬ S k) : AVRow w' ao len l := by
  obtain ⟨h1, h2⟩ := h
  refine ⟨h1, ?_⟩
  rcases h2 with h2 | ⟨b, off, h3, h4⟩
  · exact .inl h2
  · by_cases hz : len = 0
    · exact .inl hz
    · have hb := hs b ⟨hz, off, h3⟩
      exact .inr ⟨b, off, h3, fun i h => let ⟨a, c, d⟩ := h4 i h; ⟨cellMks a hm hb, cellMks c hm hb, cellMks d hm hb⟩⟩
theorem AsksM.mks {S : Nat → Prop} {w w' : World} (hm : Mks S w w') : ∀ (l : List AV) (K : Nat), AsksM w K l → (∀ v ∈ l, ∀ k, inR v.ao v.len k → ¬ S k) → AsksM w' K l
  | [], _, _, _ => trivial
  | v :: t, K, h, hs => ⟨h.1.mks hm (hs v (by simp)), AsksM.mks hm t _ h.2 (fun u hu => hs u (by simp [hu]))⟩
theorem endM_le : ∀ (l : List AV) (K m : Nat), (∀ v ∈ l, v.len ≤ m) → endM K l ≤ K + l.length * (2 + 5 * m)
  | [], K, m, _ => by simp [endM]
  | v :: t, K, m, h => by
    have h1 := endM_le t (K + 2 + 5 * v.len) m (fun u hu => h u (by simp [hu]))
    have h2 := h v (by simp)
    simp only [endM, List.length_cons, Nat.add_mul]
    omega
/-- the asks of two applications lie apart -/
def Apart (u v : AV) : Prop := u.len = 0 ∨ v.len = 0 ∨ u.ao ≠ v.ao

/-- block g is M heads of applications, of which these are the first -/
def AVBlk (w : World) (g M : Nat) (l : List AV) : Prop := Cel w 41 g (M * 3) ∧ l.length ≤ M ∧ ∀ i (h : i < l.length), AVAt w g (i * 3) l[i]
theorem AVBlk.below {w w' : World} {g M : Nat} {l : List AV} (h : AVBlk w g M l) (hb : Below w.heap.size w w') : AVBlk w' g M l := ⟨h.1.below hb, h.2.1, fun i hi => (h.2.2 i hi).below hb⟩
theorem AVBlk.mks {S : Nat → Prop} {w w' : World} {g M : Nat} {l : List AV} (h : AVBlk w g M l) (hm : Mks S w w') (hs : ¬ S g) : AVBlk w' g M l :=
  ⟨hm.cel _ _ _ h.1, h.2.1, fun i hi => let ⟨a, b, c⟩ := h.2.2 i hi; ⟨cellMks a hm hs, cellMks b hm hs, cellMks c hm hs⟩⟩
theorem AVBlk.id {w : World} {g M i : Nat} {l : List AV} (h : AVBlk w g M l) (hi : i < l.length) (x : Int) : AVBlk (w.setCell ⟨g, i * 3, none⟩ (.int .i64 x)) g M (l.set i ⟨x, l[i].queue, l[i].ao, l[i].len, l[i].cap⟩) := by
  refine ⟨h.1.set _ _ _, by simpa using h.2.1, fun j hj => ?_⟩
  have hj' : j < l.length := by simpa using hj
  obtain ⟨a, b, c⟩ := h.2.2 j hj'
  by_cases e : i = j
  · subst e
    simp only [List.getElem_set_self]
    exact ⟨World.cell?_setCell_same _ ⟨g, i * 3, none⟩ _ a, cellKeep b (by omega), cellKeep c (by omega)⟩
  · rw [List.getElem_set_ne e]
    exact ⟨cellKeep a (by omega), cellKeep b (by omega), cellKeep c (by omega)⟩
theorem AVBlk.row {w : World} {g M : Nat} {l : List AV} (h : AVBlk w g M l) : AVRow w (some ⟨g, 0, none⟩) l.length l := ⟨rfl, .inr ⟨g, 0, rfl, fun i hi => by rw [Nat.zero_add]; exact h.2.2 i hi⟩⟩

end Go.Proofs.YtcplnodfcchdhaaGreat
