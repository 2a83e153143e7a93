/-
  Several texts of this claim in one: KKey, AKey, MarkP, MarkQ, MarkH, HeldQ, MarkZ (pack.py put them together); each says in its own remark what is proved.
-/
import Derived.Test.YtgdndekmkaknlaaGreatStAll
import Derived.Maps.OwnSet
import Derived.Maps.Views
import Derived.DeepKeys4
import Derived.Deep.Slices
import Derived.Test.YtgdndekmkaknlaaGreatPackB
import Derived.Test.YtgdndekmkaknlaaGreatPackA
import Derived.Deep.RegionHeld3
/-
  Keys of name and number: the keys of the maps.
-/
namespace Go.Proofs.YtgdndekmkaknlaaGreat
open Go.RowKit Go.Maps
set_option linter.unusedVariables false
abbrev keyv (nm : List UInt8) (k : Int) : Value := .agg #[.string (bs nm), .int .i64 k]
theorem keyLaidOut : laidOutB Tryz.prog = true := by kernel_rfl
theorem keyRow : (168 : TypeId) < Tryz.prog.types.size := of_decide_eq_true (by kernel_rfl)
theorem keyWide : (match Tryz.prog.underlying 168 with | some (.array _ _) | some (.struct _) => true | _ => false) = true := by kernel_rfl
set_option maxRecDepth 100000 in
theorem keyLaw : Keyed Tryz.prog 168 := Keyed.of_law (deep_law_laid keyLaidOut (m := 3) (by omega) keyRow (by kernel_rfl) keyWide)
theorem keyKeyType : Tryz.prog.keyType 168 = true := by kernel_rfl
theorem keyCells : Tryz.prog.cellsOf 168 = 2 := by kernel_rfl
theorem keyIntCells : Tryz.prog.cellsOf 3 = 1 := by kernel_rfl
theorem keyStrCells : Tryz.prog.cellsOf 9 = 1 := by kernel_rfl
theorem keyTypesMany : ∃ m, Tryz.prog.types.size + 1 = m + 2 := ⟨Tryz.prog.types.size - 1, by have : 3 ≤ Tryz.prog.types.size := of_decide_eq_true (by kernel_rfl); omega⟩
theorem klits_int (n : Nat) {a : Int} (h : (Lit.int .i64 a).wf = true) : Tryz.prog.keyLits (n + 1) 3 [.int .i64 a] = some [.int .i64 a] := by
  simp [Program.keyLits, Tryz.underlying3, h]
theorem klits_str (n : Nat) {s : ByteArray} (h : s.size ≤ maxLen) : Tryz.prog.keyLits (n + 1) 9 [.string s] = some [.string s.data.toList] := by
  simp [Program.keyLits, Tryz.underlying9, h]
theorem keyKey {nm : List UInt8} {k : Int} (hn : nm.length ≤ 9223372036854775807) (hk : (Lit.int .i64 k).wf = true) : ∃ kl, keyOf Tryz.prog 168 (keyv nm k) = some kl := by
  obtain ⟨m, hm⟩ := keyTypesMany
  have hs : (bs nm).size ≤ maxLen := by rw [bs_size]; exact hn
  have h : Tryz.prog.keyLits (m + 2) 168 [.string (bs nm), .int .i64 k] = some [.string (bs nm).data.toList, .int .i64 k] := by
    have h := Tryz.underlying168
    unfold Program.keyLits
    simp [h, keyCells, keyIntCells, keyStrCells, klits_int m hk, klits_str m hs]
  have hu := Tryz.underlying168
  have hk : keyOf Tryz.prog 168 (keyv nm k) = if Tryz.prog.keyType 168 && (keyv nm k).formed Tryz.prog 168 then (Tryz.prog.keyLits (Tryz.prog.types.size + 1) 168 (keyv nm k).cells.toList).map (fun ls => .string (keyBytes ls)) else none := by
    unfold keyOf
    rw [hu]
  rw [hk, if_pos (by simp [keyKeyType, Value.formed, hu, keyCells]), hm, show (keyv nm k).cells.toList = [.string (bs nm), .int .i64 k] from rfl, h]
  exact ⟨_, rfl⟩
theorem bs_data (s : ByteArray) : bs s.data.toList = s := by simp [bs]
end Go.Proofs.YtgdndekmkaknlaaGreat

/-
  The map of applications by a key of name and number: its elements, and what it is known to hold; rows of applications as they stand in memory.
-/
namespace Go.Proofs.YtgdndekmkaknlaaGreat
open Go.RowKit Go.Maps
set_option linter.unusedVariables false
/-- an application as it stands: its number, its queue, where its asks stand -/
structure AV where
  id : Int
  queue : List UInt8
  ao : Option Addr
  len : Nat
  cap : Nat
abbrev avv (v : AV) : Value := .agg #[.int .i64 v.id, .string (bs v.queue), .slice v.ao v.len v.cap]
def AVAt (w : World) (b p : Nat) (v : AV) : Prop :=
  w.cell? ⟨b, p, none⟩ = some (.int .i64 v.id) ∧ w.cell? ⟨b, p + 1, none⟩ = some (.string (bs v.queue)) ∧ w.cell? ⟨b, p + 2, none⟩ = some (.slice v.ao v.len v.cap)
theorem AVAt.lt {w : World} {b p : Nat} {v : AV} (h : AVAt w b p v) : b < w.heap.size := cell_lt h.1
theorem AVAt.below {w w' : World} {b p : Nat} {v : AV} (h : AVAt w b p v) (hb : Below w.heap.size w w') : AVAt w' b p v :=
  ⟨(hb.cell h.lt).trans h.1, (hb.cell h.lt).trans h.2.1, (hb.cell h.lt).trans h.2.2⟩
def AVRow (w : World) (ao : Option Addr) (len : Nat) (l : List AV) : Prop :=
  len = l.length ∧ (len = 0 ∨ ∃ b off, ao = some ⟨b, off, none⟩ ∧ ∀ i (h : i < l.length), AVAt w b (off + i * 3) l[i])
theorem AVRow.below {w w' : World} {ao : Option Addr} {len : Nat} {l : List AV} (h : AVRow w ao len l) (hb : Below w.heap.size w w') : AVRow w' ao len l := by
  obtain ⟨h1, h2⟩ := h
  refine ⟨h1, ?_⟩
  rcases h2 with h2 | ⟨b, off, h3, h4⟩
  · exact .inl h2
  · exact .inr ⟨b, off, h3, fun i h => (h4 i h).below hb⟩
theorem AVRow.at {w : World} {ao : Option Addr} {len : Nat} {l : List AV} (h : AVRow w ao len l) {i : Nat} (hi : i < len) : ∃ b off, ao = some ⟨b, off, none⟩ ∧ ∀ (h : i < l.length), AVAt w b (off + i * 3) l[i] := by
  obtain ⟨h1, h2⟩ := h
  rcases h2 with h2 | ⟨b, off, h3, h4⟩
  · omega
  · exact ⟨b, off, h3, fun hi => h4 i hi⟩
/-- these heads are those of these applications -/
def Heads (w : World) (hs : List AV) (l : List Appl) : Prop :=
  hs.length = l.length ∧ ∀ i (h : i < hs.length) (h' : i < l.length), hs[i].id = l[i].id ∧ hs[i].queue = l[i].queue ∧ AskRow w hs[i].ao hs[i].len l[i].asks ∧ hs[i].len ≤ hs[i].cap
theorem ApplRow.heads {w : World} {ao : Option Addr} {len : Nat} {l : List Appl} (h : ApplRow w ao len l) : ∃ hs, AVRow w ao len hs ∧ Heads w hs l := by
  obtain ⟨h1, h2⟩ := h
  by_cases h0 : len = 0
  · have hl : l = [] := List.length_eq_zero_iff.1 (by omega)
    subst hl
    exact ⟨[], ⟨by simpa using h0, .inl h0⟩, rfl, fun i h => by simp at h⟩
  · rcases h2 with h2 | ⟨b, off, h3, h4⟩
    · exact absurd h2 h0
    · have inh : Inhabited AV := ⟨⟨0, [], none, 0, 0⟩⟩
      obtain ⟨F, hF⟩ := Go.Deep.choose_lt (α := AV) (n := l.length) (p := fun i v => ∀ hi : i < l.length, AVAt w b (off + i * 3) v ∧ v.id = l[i].id ∧ v.queue = l[i].queue ∧ AskRow w v.ao v.len l[i].asks ∧ v.len ≤ v.cap) (fun i hi => by
        obtain ⟨x, y, z, a, c, d, e, f⟩ := h4 i hi
        exact ⟨⟨l[i].id, l[i].queue, x, y, z⟩, fun _ => ⟨⟨a, c, d⟩, rfl, rfl, e, f⟩⟩)
      refine ⟨(List.range l.length).map F, ⟨by simpa using h1, .inr ⟨b, off, h3, fun i hi => ?_⟩⟩, by simp, fun i hi hi' => ?_⟩
      · have hi' : i < l.length := by simpa using hi
        simpa using (hF i hi' hi').1
      · simpa using (hF i hi' hi').2

def addrD : Option Addr → DataW Unit
  | none => .agg []
  | some ⟨b, o, none⟩ => .agg [.lit (.int .i64 b), .lit (.int .i64 o)]
  | some ⟨b, o, some k⟩ => .agg [.lit (.int .i64 b), .lit (.int .i64 o), .lit (.int .i64 k)]
theorem addrD_inj {a b : Option Addr} (h : addrD a = addrD b) : a = b := by
  match a, b with
  | none, none => rfl
  | none, some ⟨x, y, none⟩ => simp [addrD] at h
  | none, some ⟨x, y, some z⟩ => simp [addrD] at h
  | some ⟨x, y, none⟩, none => simp [addrD] at h
  | some ⟨x, y, some z⟩, none => simp [addrD] at h
  | some ⟨x, y, none⟩, some ⟨x', y', none⟩ => simp [addrD] at h; obtain ⟨h1, h2⟩ := h; (have e1 : x = x' := (by omega)); (have e2 : y = y' := (by omega)); subst e1 e2; rfl
  | some ⟨x, y, none⟩, some ⟨x', y', some z'⟩ => simp [addrD] at h
  | some ⟨x, y, some z⟩, some ⟨x', y', none⟩ => simp [addrD] at h
  | some ⟨x, y, some z⟩, some ⟨x', y', some z'⟩ => simp [addrD] at h; obtain ⟨h1, h2, h3⟩ := h; (have e1 : x = x' := (by omega)); (have e2 : y = y' := (by omega)); (have e3 : z = z' := (by omega)); subst e1 e2 e3; rfl
/-- how an application reads -/
def ad (v : AV) : DataW Unit := .agg [.lit (.int .i64 v.id), .lit (.string v.queue), addrD v.ao, .lit (.int .i64 v.len), .lit (.int .i64 v.cap)]
theorem ad_inj {a b : AV} (h : ad a = ad b) : a = b := by
  obtain ⟨a1, a2, a3, a4, a5⟩ := a
  obtain ⟨b1, b2, b3, b4, b5⟩ := b
  simp [ad] at h
  obtain ⟨h1, h2, h3, h4, h5⟩ := h
  have e3 := addrD_inj h3
  have e4 : a4 = b4 := by omega
  have e5 : a5 = b5 := by omega
  subst h1 h2 e3 e4 e5
  rfl
def appElem : Value → Option (DataW Unit × List MemPlace)
  | .agg cs => match cs.toList with
    | [.int .i64 x, .string s, .slice ao len cap] => some (ad ⟨x, s.data.toList, ao, len, cap⟩, [])
    | _ => none
  | _ => none
theorem appElem_mk (v : AV) : appElem (avv v) = some (ad v, []) := by
  obtain ⟨x, qu, ao, len, cap⟩ := v
  simp [appElem, bs]
theorem appElem_shape {v : Value} {y : DataW Unit × List MemPlace} (h : appElem v = some y) : ∃ c, v = avv c := by
  unfold appElem at h
  split at h
  · rename_i cs
    split at h
    · rename_i x s ao len cap e
      have e2 : cs = #[.int .i64 x, .string s, .slice ao len cap] := by cases cs; simpa using e
      exact ⟨⟨x, s.data.toList, ao, len, cap⟩, by rw [e2]; simp [avv, bs_data]⟩
    · cases h
  · cases h
theorem appElem_inv {v : Value} {m : AV} {ps : List MemPlace} (h : appElem v = some (ad m, ps)) : v = avv m := by
  obtain ⟨c, rfl⟩ := appElem_shape h
  rw [appElem_mk] at h
  have := ad_inj (congrArg Prod.fst (Option.some.inj h))
  rw [show c = m from this]
def findA (id : Int) (l : List AV) : Option AV := l.find? (fun v => decide (v.id = id))
theorem findA_id {id : Int} {l : List AV} {v : AV} (h : findA id l = some v) : v.id = id := by simpa using List.find?_some h
/-- the map holds, for every number, the first application of the list that has it, where it is kept -/
def KnownA (l : List AV) (keep : Lit → AV → Bool) (D : DataW Unit) : Prop :=
  (∀ kl, Maps.has D kl = true → ∃ v, findA v.id l = some v ∧ keyOf Tryz.prog 168 (keyv [] v.id) = some kl ∧ ∀ zd, D.atKey kl zd = ad v) ∧
  (∀ v kl, findA v.id l = some v → keyOf Tryz.prog 168 (keyv [] v.id) = some kl → Maps.has D kl = keep kl v)
abbrev allA : Lit → AV → Bool := fun _ _ => true
theorem knownA_empty : KnownA [] allA (.map []) := ⟨fun kl h => by simp [Maps.has] at h, fun v kl h => by simp [findA] at h⟩
theorem KnownA.put {l : List AV} {D : DataW Unit} (h : KnownA l allA D) (hD : IsMap D) {m : AV} {kl : Lit} (hk : keyOf Tryz.prog 168 (keyv [] m.id) = some kl) : KnownA (m :: l) allA (D.put kl (ad m)) := by
  have hne : ∀ (kl' : Lit) (v : AV), kl' ≠ kl → keyOf Tryz.prog 168 (keyv [] v.id) = some kl' → ¬ m.id = v.id := fun kl' v e hv e' => e (by rw [← e'] at hv; rw [hk] at hv; exact (Option.some.inj hv).symm)
  refine ⟨fun kl' hh => ?_, fun v kl' h1 h2 => ?_⟩
  · by_cases e : kl' = kl
    · subst e
      exact ⟨m, by simp [findA], hk, fun zd => atKey_put_same hD (keyLaw.key hk) _ _⟩
    · rw [has_put_other e] at hh
      obtain ⟨v, h1, h2, h3⟩ := h.1 kl' hh
      exact ⟨v, by have := hne kl' v e h2; simpa [findA, this] using h1, h2, fun zd => by rw [atKey_put_other e]; exact h3 zd⟩
  · by_cases e : kl' = kl
    · subst e
      exact has_put_same hD (keyLaw.key hk) _
    · rw [has_put_other e]
      exact h.2 v kl' (by have := hne kl' v e h2; simpa [findA, this] using h1) h2
theorem keyv_inj {a b : Int} {kl : Lit} (h1 : keyOf Tryz.prog 168 (keyv [] a) = some kl) (h2 : keyOf Tryz.prog 168 (keyv [] b) = some kl) : a = b := by
  have := keyLaw.inj h1 h2
  simpa [keyv] using this
theorem KnownA.look {l : List AV} {keep : Lit → AV → Bool} {D : DataW Unit} (h : KnownA l keep D) {id : Int} {kl : Lit} (hk : keyOf Tryz.prog 168 (keyv [] id) = some kl) :
    (findA id l = none → Maps.has D kl = false) ∧ ∀ v, findA id l = some v → Maps.has D kl = keep kl v ∧ (Maps.has D kl = true → ∀ zd, D.atKey kl zd = ad v) := by
  refine ⟨fun hf => ?_, fun v hf => ?_⟩
  · cases hh : Maps.has D kl with
    | false => rfl
    | true =>
      obtain ⟨v, h1, h2, _⟩ := h.1 kl hh
      rw [← keyv_inj hk h2] at h1
      rw [hf] at h1
      cases h1
  · have hv := findA_id hf
    rw [← hv] at hf hk
    refine ⟨h.2 v kl hf hk, fun hh => ?_⟩
    obtain ⟨u, h1, h2, h3⟩ := h.1 kl hh
    have e := keyv_inj hk h2
    rw [← e, hf] at h1
    cases h1
    exact h3
def optB (o : Option AV) (f : AV → Bool) : Bool := match o with
  | none => false
  | some v => f v
theorem appZero (w : World) : (zeroValue 71).run Tryz.prog w = .ok (avv ⟨0, [], none, 0, 0⟩) w := by kernel_rfl
/-- what a look-up finds -/
theorem lookA {w : World} {bm n : Nat} {l : List AV} {keep : Lit → AV → Bool} {D : DataW Unit} (hown : w.ownsMap Tryz.prog 168 appElem bm n D) (hk : KnownA l keep D) {id : Int} {kl : Lit} (hkey : keyOf Tryz.prog 168 (keyv [] id) = some kl) :
    ∃ v : AV, (Instr.lookup 161 (.map (some bm)) (keyv [] id) true).run Tryz.prog w = .ok (.tuple #[avv v, .bool (optB (findA id l) (keep kl))]) w ∧ (∀ u, findA id l = some u → keep kl u = true → v = u) ∧ (findA id l = none → v = ⟨0, [], none, 0, 0⟩) := by
  obtain ⟨v, ps, hrun, hv⟩ := hown.look_ok keyLaw Tryz.underlying161 (appZero w) (appElem_mk ⟨0, [], none, 0, 0⟩) hkey
  obtain ⟨h1, h2⟩ := hk.look hkey
  cases hf : findA id l with
  | none =>
    have hh := h1 hf
    rw [atKey_of_not_has hh] at hv
    rw [appElem_inv hv, hh] at hrun
    exact ⟨_, hrun, (fun u e => by cases e), fun _ => rfl⟩
  | some u =>
    obtain ⟨ha, hb⟩ := h2 u hf
    obtain ⟨c, rfl⟩ := appElem_shape hv
    rw [ha] at hrun
    refine ⟨c, hrun, fun u' e hu => ?_, (fun e => by cases e)⟩
    cases e
    rw [hb (ha.trans hu)] at hv
    rw [appElem_mk] at hv
    exact ad_inj (congrArg Prod.fst (Option.some.inj hv))
end Go.Proofs.YtgdndekmkaknlaaGreat

/-
  The laws' own markAppS and heldAppS over applications whose asks lie in blocks of their own: what is marked, and found again; walks over the dump.
-/
namespace Go.Proofs.YtgdndekmkaknlaaGreat
open Go.RowKit
set_option linter.unusedVariables false
/-- the number behind the marks of these applications -/
def endM : Nat → List AV → Nat
  | K, [] => K
  | K, v :: t => endM (K + 2 + 5 * v.len) t
/-- the heads as they are marked from K on -/
def hsM : Nat → List AV → List AV
  | _, [] => []
  | K, v :: t => ⟨(K : Int), 109 :: dgs (K + 1), v.ao, v.len, v.cap⟩ :: hsM (K + 2 + 5 * v.len) t
/-- the asks bear their marks -/
def AsksM (w : World) : Nat → List AV → Prop
  | _, [] => True
  | K, v :: t => AskRow w v.ao v.len (marksA (K + 2) v.len) ∧ AsksM w (K + 2 + 5 * v.len) t
theorem hsM_len : ∀ (l : List AV) (K : Nat), (hsM K l).length = l.length
  | [], _ => rfl
  | v :: t, K => by simp [hsM, hsM_len t]
theorem AsksM.below {w w' : World} (hb : Below w.heap.size w w') : ∀ (l : List AV) (K : Nat), AsksM w K l → AsksM w' K l
  | [], _, _ => trivial
  | v :: t, K, h => ⟨h.1.below hb, AsksM.below hb t _ h.2⟩
theorem endM_ge : ∀ (l : List AV) (K : Nat), K ≤ endM K l
  | [], K => Nat.le_refl _
  | v :: t, K => by have := endM_ge t (K + 2 + 5 * v.len); rw [endM]; omega
theorem endM_step : ∀ (l : List AV) (K j : Nat) (h : j < l.length), endM K (l.take (j + 1)) = endM K (l.take j) + 2 + 5 * l[j].len
  | v :: t, K, 0, _ => by simp [endM]
  | v :: t, K, j + 1, h => by
    have := endM_step t (K + 2 + 5 * v.len) j (by simpa using h)
    simp only [List.take_succ_cons, endM, List.getElem_cons_succ]
    exact this
theorem AsksM_at {w : World} : ∀ (l : List AV) (K j : Nat) (h : j < l.length), AsksM w K l → AskRow w l[j].ao l[j].len (marksA (endM K (l.take j) + 2) l[j].len)
  | v :: t, K, 0, _, h => by simpa [endM] using h.1
  | v :: t, K, j + 1, hj, h => by
    have := AsksM_at t (K + 2 + 5 * v.len) j (by simpa using hj) h.2
    simpa [endM] using this
theorem hsM_at : ∀ (l : List AV) (K j : Nat) (h : j < l.length) (h' : j < (hsM K l).length), (hsM K l)[j] = ⟨(endM K (l.take j) : Int), 109 :: dgs (endM K (l.take j) + 1), l[j].ao, l[j].len, l[j].cap⟩
  | v :: t, K, 0, _, _ => by simp [hsM, endM]
  | v :: t, K, j + 1, h, h' => by
    have := hsM_at t (K + 2 + 5 * v.len) j (by simpa using h) (by simpa [hsM] using h')
    simp only [hsM, List.getElem_cons_succ, List.take_succ_cons, endM]
    exact this
/-- one application's head stands; of w0 nothing has turned -/
def AVOne (w0 : World) (b p : Nat) (q : AV) (w : World) : Prop := AVAt w b p q ∧ Below w0.heap.size w0 w
theorem AVOne.call {w0 w w' : World} {b p : Nat} {q : AV} (h : AVOne w0 b p q w) (hb : Below w.heap.size w w') : AVOne w0 b p q w' := ⟨h.1.below hb, below_on h.2 hb⟩
theorem AVOne.drew {w0 w : World} {b p : Nat} {q : AV} (h : AVOne w0 b p q w) : AVOne w0 b p q w.drew := h.call (Below.refl _ _).drew
theorem AVOne.read (w0 : World) (b p : Nat) (q : AV) : ∀ wx, AVOne w0 b p q wx → wx.cell? ⟨b, p, none⟩ = some (.int .i64 q.id) ∧ wx.cell? ⟨b, p + 1, none⟩ = some (.string (bs q.queue)) ∧ wx.cell? ⟨b, p + 2, none⟩ = some (.slice q.ao q.len q.cap) := fun wx h => h.1

set_option maxRecDepth 100000 in
set_option maxHeartbeats 4000000 in
theorem heldAppS_any (ao : Option Addr) (n c K : Nat) (hs : List AV) (w : World) (h : AVRow w ao n (hsM K hs)) (ha : AsksM w K hs) (hn : n ≤ 1048576) (hk : ∀ v ∈ hs, v.len ≤ 1048576) (h0 : 0 < K) (h1 : endM K hs ≤ 100000000000000) :
    Calls Tryz.prog 29 #[.slice ao n c, .int .i64 (K : Int)] w fun e w' => e = .returned (.int .i64 (endM K hs : Int)) ∧ Below w.heap.size w w' := by
  have HR := hide h
  have HA := hide ha
  have HLN := hide (show n = hs.length by rw [h.1, hsM_len])
  have HV := hide hk
  have HE := hide (show ∀ j, endM K (hs.take j) ≤ endM K hs from fun j => by
    have : ∀ (l : List AV) (K j : Nat), endM K (l.take j) ≤ endM K l := by
      intro l
      induction l with
      | nil => intro K j; simp [endM]
      | cons v t ih =>
        intro K j
        cases j with
        | zero => simp only [List.take_zero, endM]; have := endM_ge t (K + 2 + 5 * v.len); omega
        | succ j => simp only [List.take_succ_cons, endM]; exact ih _ _
    exact this hs K j)
  have HG := hide (fun j => endM_ge (hs.take j) K)
  clear h ha hk
  go_enter Tryz.func29, Tryz.ntmps29
  go_wp2
  go_loopw [1, 5] (fun s i wr => ∃ (j : Nat) (k : Nat), j ≤ n ∧ i = .int .i64 j ∧ s = .int .i64 (k : Int) ∧ Hid (k = endM K (hs.take j)) ∧ Hid (Below w.heap.size w wr)) (fun _ i _ => n - (intOf i).toNat)
  case atStart => exact ⟨0, K, Nat.zero_le _, rfl, rfl, hide (by simp [endM]), hide (Below.refl _ _)⟩
  case round =>
    obtain ⟨j, k, hj, rfl, rfl, HK, HB⟩ := hrel
    by_cases hlt : j < n
    · have hjl : j < hs.length := by have := unhide HLN; omega
      obtain ⟨b, off, rfl, hq⟩ := ((unhide HR).below (unhide HB)).at hlt
      have hqq := hq (by rw [hsM_len]; exact hjl)
      rw [hsM_at hs K j hjl] at hqq
      have hrow := (AsksM_at hs K j hjl (unhide HA)).below (unhide HB)
      have hvl := unhide HV _ (List.getElem_mem hjl)
      have hst := endM_step hs K j hjl
      have hle := unhide HE (j + 1)
      have hgk := unhide HG j
      rw [← unhide HK] at hqq hrow hst hgk
      obtain ⟨⟨vi, vq, va, vl, vc⟩, hv⟩ : ∃ v, hs[j] = v := ⟨_, rfl⟩
      rw [hv] at hqq hrow hst hvl
      simp only at hqq hrow hst hvl
      rw [hst] at hle
      have HN := hide (show (k + 2 + 5 * vl : Nat) = endM K (hs.take (j + 1)) from hst.symm)
      have C0 := hide (show ∀ wx, Calls Tryz.prog 24 #[.int .i64 ((k : Int) + 1)] wx fun e w' => e = .returned (.string (bs (109 :: dgs (k + 1)))) ∧ Below wx.heap.size wx w' from fun wx => by
        have := markText_int ((k : Int) + 1) wx (by omega) (by omega)
        rw [show ((k : Int) + 1).toNat = k + 1 by omega] at this
        exact this)
      have C1 := hide (fun wx (hb : Below wr.heap.size wr wx) => by have := heldAskS_any va vl vc (k + 2) wx (hrow.below hb) hvl (by omega) (by omega); rw [show ((k + 2 : Nat) : Int) = (k : Int) + 1 + 1 by omega] at this; exact this)
      have A0 := hide (show AVOne wr b (off + j * 3) ⟨(k : Int), 109 :: dgs (k + 1), va, vl, vc⟩ wr from ⟨hqq, Below.refl _ _⟩)
      have R := AVOne.read wr b (off + j * 3) ⟨(k : Int), 109 :: dgs (k + 1), va, vl, vc⟩
      simp only at R
      have R' := hide R
      obtain ⟨r0, _, _⟩ := R _ (unhide A0)
      have j0 : (0 : Int) ≤ j := by omega
      have j1 : (j : Int) < n := by omega
      have hk0 : 0 < k := by omega
      have hk1 : k ≤ 100000000000000 := by omega
      have hw1 : IntKind.i64.wrap ((k : Int) + 1) = (k : Int) + 1 := by rw [IntKind.wrap_i64]; omega
      clear hq hqq hrow hst hv hle hgk R hjl
      go_wp2_with fail
      have R := unhide R'
      clear r0
      go_region_held3 (fun wx => AVOne wr b (off + j * 3) ⟨(k : Int), 109 :: dgs (k + 1), va, vl, vc⟩ wx)
        (first | (with_reducible assumption) | exact (unhide A0).drew | exact AVOne.call (by assumption) (by assumption))
        (first
        | (go_at_call 24; refine (unhide C0 _).mono ?_; rintro e wt ⟨rfl, hb⟩; have SA := AVOne.call (w0 := wr) (b := b) (p := off + j * 3) (q := ⟨(k : Int), 109 :: dgs (k + 1), va, vl, vc⟩) (by assumption) hb))
      obtain ⟨_, _, r2⟩ := R _ SA
      have HS2 := hide SA.2
      clear SA A0 R C0 R'
      go_wp2_with fail
      refine (unhide C1 _ (unhide HS2)).mono ?_
      rintro e w3 ⟨rfl, hb⟩
      have HB3 := hide (below_on (below_on (unhide HB) (unhide HS2)) hb)
      clear hb HS2 C1 r2
      have hkn : ¬ ((k : Int) + 1 + 1 + 5 * (vl : Int)) < 0 := by omega
      go_wp2
      go_roundw
      case rel => exact ⟨j + 1, k + 2 + 5 * vl, by omega, by go_num, by refine congrArg _ ?_; omega, HN, HB3⟩
      case measure => simp [intOf]; omega
    · have hjn : j = n := by omega
      have hke : k = endM K hs := by rw [unhide HK, List.take_of_length_le (by have := unhide HLN; omega)]
      have j1 : ¬ (j : Int) < n := by omega
      go_wp2
      go_ret
      exact ⟨rfl, unhide HB⟩
end Go.Proofs.YtgdndekmkaknlaaGreat

/-
  The laws' own markQueueS: it writes into the row that it is handed, and into nothing else; a walk over the dump.
-/
namespace Go.Proofs.YtgdndekmkaknlaaGreat
open Go.RowKit
set_option linter.unusedVariables false
set_option maxRecDepth 100000 in
set_option maxHeartbeats 2000000 in
theorem markQueueS_any (g n : Nat) (w : World) (h : QAny w 48 g n) (hn : n ≤ 1048576) :
    Calls Tryz.prog 10 #[.slice (some ⟨g, 0, none⟩) n n, .int .i64 1] w fun e w' => e = .returned (.int .i64 (1 + 4 * (n : Int))) ∧ w.grownBy w' (some g) := by
  have HQ0 := hide h
  clear h
  go_enter Tryz.func10, Tryz.ntmps10
  go_wp2
  go_loopw [1, 5] (fun s i wr => ∃ (j : Nat) (k : Int), j ≤ n ∧ i = .int .i64 j ∧ s = .int .i64 k ∧ k = 1 + 4 * (j : Int) ∧ Hid (QAny wr 48 g n) ∧ Hid (w.grownBy wr (some g))) (fun _ i _ => n - (intOf i).toNat)
  case atStart => exact ⟨0, 1, Nat.zero_le _, rfl, rfl, by omega, HQ0, hide (grownBy_refl _ _)⟩
  case round =>
    obtain ⟨j, k, hj, rfl, rfl, hk, HQ, HG⟩ := hrel
    by_cases hlt : j < n
    · have HK := hide hk
      have hk0 : 0 < k := by omega
      have hk1 : k ≤ 4194305 := by omega
      clear hk
      go_wp2_with fail
      refine (markText_int k _ hk0 (by omega)).mono ?_
      rintro e w1 ⟨rfl, hb⟩
      have HQ1 := hide (show QAny w1 48 g n from QBlk.below (unhide HQ) hb)
      have HG1 := hide (grownBy_below (unhide HG) hb)
      obtain ⟨v0, d0⟩ := QBlk.cell (unhide HQ1) (j := j * 4) (by omega)
      have f0 := QBlk.frozen (unhide HQ1) (j * 4)
      have HQ1' := hide ((unhide HQ1).set (j * 4) (.string (mk k.toNat)))
      have HG1' := hide (grownBy_set (unhide HG1) (j * 4) (.string (mk k.toNat)))
      clear hb HQ HG
      go_wp2_with fail
      refine (markText_int (k + 1) _ (by omega) (by omega)).mono ?_
      rintro e w2 ⟨rfl, hb⟩
      have HQ2 := hide (show QAny w2 48 g n from QBlk.below (unhide HQ1') hb)
      have HG2 := hide (grownBy_below (unhide HG1') hb)
      obtain ⟨v1, d1⟩ := QBlk.cell (unhide HQ2) (j := j * 4 + 1) (by omega)
      have f1 := QBlk.frozen (unhide HQ2) (j * 4 + 1)
      have HQ3 := hide ((unhide HQ2).set (j * 4 + 1) (.string (mk (k + 1).toNat)))
      have HG3 := hide (grownBy_set (unhide HG2) (j * 4 + 1) (.string (mk (k + 1).toNat)))
      obtain ⟨v2, d2⟩ := QBlk.cell (unhide HQ3) (j := j * 4 + 2) (by omega)
      have f2 := QBlk.frozen (unhide HQ3) (j * 4 + 2)
      have HQ4 := hide ((unhide HQ3).set (j * 4 + 2) (.int .i64 (k + 1 + 1)))
      have HG4 := hide (grownBy_set (unhide HG3) (j * 4 + 2) (.int .i64 (k + 1 + 1)))
      obtain ⟨v3, d3⟩ := QBlk.cell (unhide HQ4) (j := j * 4 + 3) (by omega)
      have f3 := QBlk.frozen (unhide HQ4) (j * 4 + 3)
      clear hb d0 f0 HQ1 HG1 HQ1' HG1' HQ2 HG2
      go_wp2
      go_roundw
      case rel => exact ⟨j + 1, k + 1 + 1 + 1 + 1, by omega, by go_num, by go_num, by have := unhide HK; omega, hide ((unhide HQ4).set _ _), hide (grownBy_set (unhide HG4) _ _)⟩
      case measure => simp [intOf]; omega
    · have hjn : j = n := by omega
      subst hjn
      go_wp2
      go_ret
      exact ⟨ret_int (by omega), unhide HG⟩
end Go.Proofs.YtgdndekmkaknlaaGreat

/-
  The laws' own markQueueS and heldQueueS: what is marked in a row of queues, and found again; walks over the dump.
-/
namespace Go.Proofs.YtgdndekmkaknlaaGreat
open Go.RowKit
set_option linter.unusedVariables false
/-- the queue of marks at place j -/
def markQ (j : Nat) : Q := ⟨109 :: dgs (1 + 4 * j), 109 :: dgs (1 + 4 * j + 1), 1 + 4 * (j : Int) + 1 + 1, 1 + 4 * (j : Int) + 1 + 1 + 1⟩
def marksQ (n : Nat) : List Q := (List.range n).map markQ
theorem marksQ_len (n : Nat) : (marksQ n).length = n := by simp [marksQ]
theorem marksQ_at (n j : Nat) (h : j < (marksQ n).length) : (marksQ n)[j] = markQ j := by simp [marksQ]
theorem QBlk.tail {w : World} {t : TypeId} {g n k : Nat} {l : List Q} (h : QBlk w t g n k l) {p : Nat} (hp : k * 4 ≤ p) (v : Value) : QBlk (w.setCell ⟨g, p, none⟩ v) t g n k l := by
  obtain ⟨arr, h1, h2, h3⟩ := h
  refine ⟨_, heap_setCell_same w g p _ _ v h1, by simp [h2], fun i hi hik => ?_⟩
  obtain ⟨a, b, c, d⟩ := h3 i hi hik
  refine ⟨?_, ?_, ?_, ?_⟩
  · rw [← a, Array.getElem?_setIfInBounds, if_neg (by omega)]
  · rw [← b, Array.getElem?_setIfInBounds, if_neg (by omega)]
  · rw [← c, Array.getElem?_setIfInBounds, if_neg (by omega)]
  · rw [← d, Array.getElem?_setIfInBounds, if_neg (by omega)]
theorem QBlk.next {w : World} {t : TypeId} {g n k : Nat} {l : List Q} (h : QBlk w t g n k l) (c : ∀ hk : k < l.length, QAt w g (k * 4) l[k]) : QBlk w t g n (k + 1) l := by
  obtain ⟨arr, h1, h2, h3⟩ := h
  refine ⟨arr, h1, h2, fun i hi hik => ?_⟩
  by_cases e : i = k
  · subst e
    obtain ⟨c0, c1, c2, c3⟩ := c hi
    simp [World.cell?, h1] at c0 c1 c2 c3
    exact ⟨c0, c1, c2, c3⟩
  · exact h3 i hi (by omega)
theorem QBlk.rowOf {w : World} {t : TypeId} {g c n : Nat} {l : List Q} (h : QBlk w t g c n l) (hl : n = l.length) : QRow w (some ⟨g, 0, none⟩) n l := by
  obtain ⟨arr, h1, h2, h3⟩ := h
  refine ⟨hl, .inr ⟨g, 0, rfl, fun i hi => ?_⟩⟩
  obtain ⟨a, b, c, d⟩ := h3 i hi (by omega)
  unfold QAt
  simp only [Nat.zero_add]
  exact ⟨by simp [World.cell?, h1, a], by simp [World.cell?, h1, b], by simp [World.cell?, h1, c], by simp [World.cell?, h1, d]⟩
theorem cell_keep {w : World} {g p q : Nat} {u v : Value} (h : w.cell? ⟨g, p, none⟩ = some u) (hne : q ≠ p) : (w.setCell ⟨g, q, none⟩ v).cell? ⟨g, p, none⟩ = some u :=
  (World.cell?_setCell_other _ _ _ _ (fun e => hne (congrArg Addr.off e))).trans h
theorem cell_bel {w w' : World} {g p : Nat} {u : Value} (h : w.cell? ⟨g, p, none⟩ = some u) (hb : Below w.heap.size w w') : w'.cell? ⟨g, p, none⟩ = some u := (hb.cell (cell_lt h)).trans h
set_option maxRecDepth 100000 in
set_option maxHeartbeats 2000000 in
theorem markQueueS_full (g n c : Nat) {d : Nat} (w : World) (h : QAny w 48 g c) (hc : n ≤ c) (hn : n ≤ 1048576) :
    Calls Tryz.prog 10 #[.slice (some ⟨g, 0, none⟩) n d, .int .i64 1] w fun e w' => e = .returned (.int .i64 (1 + 4 * (n : Int))) ∧ QBlk w' 48 g c n (marksQ n) ∧ w.grownBy w' (some g) := by
  have HQ0 := hide (show QBlk w 48 g c 0 (marksQ n) by obtain ⟨arr, h1, h2, _⟩ := h; exact ⟨arr, h1, h2, fun i _ h => absurd h (by omega)⟩)
  clear h
  go_enter Tryz.func10, Tryz.ntmps10
  go_wp2
  go_loopw [1, 5] (fun s i wr => ∃ (j : Nat) (k : Int), j ≤ n ∧ i = .int .i64 j ∧ s = .int .i64 k ∧ k = 1 + 4 * (j : Int) ∧ Hid (QBlk wr 48 g c j (marksQ n)) ∧ Hid (w.grownBy wr (some g))) (fun _ i _ => n - (intOf i).toNat)
  case atStart => exact ⟨0, 1, Nat.zero_le _, rfl, rfl, by omega, HQ0, hide (grownBy_refl _ _)⟩
  case round =>
    obtain ⟨j, k, hj, rfl, rfl, hk, HQ, HG⟩ := hrel
    by_cases hlt : j < n
    · have HK := hide hk
      have hk0 : 0 < k := by omega
      have hk1 : k ≤ 4194305 := by omega
      clear hk
      go_wp2_with fail
      refine (markText_int k _ hk0 (by omega)).mono ?_
      rintro e w1 ⟨rfl, hb⟩
      have HQ1 := hide ((unhide HQ).below hb)
      have HG1 := hide (grownBy_below (unhide HG) hb)
      obtain ⟨v0, d0⟩ := (unhide HQ1).cell (j := j * 4) (by omega)
      have f0 := (unhide HQ1).frozen (j * 4)
      have HQ1' := hide ((unhide HQ1).tail (p := j * 4) (by omega) (.string (mk k.toNat)))
      have X0 := hide (World.cell?_setCell_same w1 ⟨g, j * 4, none⟩ (.string (mk k.toNat)) d0)
      have HG1' := hide (grownBy_set (unhide HG1) (j * 4) (.string (mk k.toNat)))
      clear hb HQ HG
      go_wp2_with fail
      refine (markText_int (k + 1) _ (by omega) (by omega)).mono ?_
      rintro e w2 ⟨rfl, hb⟩
      have HQ2 := hide ((unhide HQ1').below hb)
      have HG2 := hide (grownBy_below (unhide HG1') hb)
      have X02 := hide (cell_bel (unhide X0) hb)
      obtain ⟨v1, d1⟩ := (unhide HQ2).cell (j := j * 4 + 1) (by omega)
      have f1 := (unhide HQ2).frozen (j * 4 + 1)
      have X1 := hide (World.cell?_setCell_same w2 ⟨g, j * 4 + 1, none⟩ (.string (mk (k + 1).toNat)) d1)
      have X03 := hide (cell_keep (q := j * 4 + 1) (v := .string (mk (k + 1).toNat)) (unhide X02) (by omega))
      have HQ3 := hide ((unhide HQ2).tail (p := j * 4 + 1) (by omega) (.string (mk (k + 1).toNat)))
      have HG3 := hide (grownBy_set (unhide HG2) (j * 4 + 1) (.string (mk (k + 1).toNat)))
      obtain ⟨v2, d2⟩ := (unhide HQ3).cell (j := j * 4 + 2) (by omega)
      have f2 := (unhide HQ3).frozen (j * 4 + 2)
      have X2 := hide (World.cell?_setCell_same _ ⟨g, j * 4 + 2, none⟩ (.int .i64 (k + 1 + 1)) d2)
      have X04 := hide (cell_keep (q := j * 4 + 2) (v := .int .i64 (k + 1 + 1)) (unhide X03) (by omega))
      have X14 := hide (cell_keep (q := j * 4 + 2) (v := .int .i64 (k + 1 + 1)) (unhide X1) (by omega))
      have HQ4 := hide ((unhide HQ3).tail (p := j * 4 + 2) (by omega) (.int .i64 (k + 1 + 1)))
      have HG4 := hide (grownBy_set (unhide HG3) (j * 4 + 2) (.int .i64 (k + 1 + 1)))
      obtain ⟨v3, d3⟩ := (unhide HQ4).cell (j := j * 4 + 3) (by omega)
      have f3 := (unhide HQ4).frozen (j * 4 + 3)
      have HN := hide (show QBlk _ 48 g c (j + 1) (marksQ n) from ((unhide HQ4).tail (p := j * 4 + 3) (by omega) (.int .i64 (k + 1 + 1 + 1))).next (fun hj' => by
        rw [marksQ_at]
        have e1 : k.toNat = 1 + 4 * j := by have := unhide HK; omega
        have e2 : (k + 1).toNat = 1 + 4 * j + 1 := by have := unhide HK; omega
        have e3 := unhide HK
        have y0 := cell_keep (q := j * 4 + 3) (v := .int .i64 (k + 1 + 1 + 1)) (unhide X04) (by omega)
        have y1 := cell_keep (q := j * 4 + 3) (v := .int .i64 (k + 1 + 1 + 1)) (unhide X14) (by omega)
        have y2 := cell_keep (q := j * 4 + 3) (v := .int .i64 (k + 1 + 1 + 1)) (unhide X2) (by omega)
        have y3 := World.cell?_setCell_same _ ⟨g, j * 4 + 3, none⟩ (.int .i64 (k + 1 + 1 + 1)) d3
        refine ⟨y0.trans ?_, y1.trans ?_, y2.trans ?_, y3.trans ?_⟩
        · rw [e1]; rfl
        · rw [e2]; rfl
        · rw [e3]; rfl
        · rw [e3]; rfl))
      clear hb d0 f0 HQ1 HG1 HQ1' HG1' HQ2 HG2 X0 X02 X1 X03 X2 X04 X14
      go_wp2
      go_roundw
      case rel => exact ⟨j + 1, k + 1 + 1 + 1 + 1, by omega, by go_num, by go_num, by have := unhide HK; omega, HN, hide (grownBy_set (unhide HG4) _ _)⟩
      case measure => simp [intOf]; omega
    · have hjn : j = n := by omega
      subst hjn
      go_wp2
      go_ret
      exact ⟨ret_int (by omega), unhide HQ, unhide HG⟩
end Go.Proofs.YtgdndekmkaknlaaGreat

/-
  The laws' own heldQueueS: the marks are found again; a walk over the dump.
-/
namespace Go.Proofs.YtgdndekmkaknlaaGreat
open Go.RowKit
set_option linter.unusedVariables false
/-- a queue stands at a place; of w0 nothing has turned -/
def QOne (w0 : World) (b p : Nat) (q : Q) (w : World) : Prop := QAt w b p q ∧ Below w0.heap.size w0 w
theorem QOne.call {w0 w w' : World} {b p : Nat} {q : Q} (h : QOne w0 b p q w) (hb : Below w.heap.size w w') : QOne w0 b p q w' := ⟨h.1.below hb, below_on h.2 hb⟩
theorem QOne.drew {w0 w : World} {b p : Nat} {q : Q} (h : QOne w0 b p q w) : QOne w0 b p q w.drew := h.call (Below.refl _ _).drew
theorem QOne.read (w0 : World) (b p : Nat) (q : Q) : ∀ wx, QOne w0 b p q wx → wx.cell? ⟨b, p, none⟩ = some (.string (bs q.name)) ∧ wx.cell? ⟨b, p + 1, none⟩ = some (.string (bs q.parent)) ∧ wx.cell? ⟨b, p + 2, none⟩ = some (.int .i64 q.due) ∧ wx.cell? ⟨b, p + 3, none⟩ = some (.int .i64 q.most) :=
  fun wx h => ⟨h.1.1, h.1.2.1, h.1.2.2.1, h.1.2.2.2⟩
set_option maxRecDepth 100000 in
set_option maxHeartbeats 2000000 in
theorem heldQueueS_any (g n c : Nat) (w : World) (h : QRow w (some ⟨g, 0, none⟩) n (marksQ n)) (hn : n ≤ 1048576) :
    Calls Tryz.prog 28 #[.slice (some ⟨g, 0, none⟩) n c, .int .i64 1] w fun e w' => e = .returned (.int .i64 (1 + 4 * (n : Int))) ∧ Below w.heap.size w w' := by
  have HR := hide h
  clear h
  go_enter Tryz.func28, Tryz.ntmps28
  go_wp2
  go_loopw [1, 5] (fun s i wr => ∃ (j : Nat) (k : Int), j ≤ n ∧ i = .int .i64 j ∧ s = .int .i64 k ∧ k = 1 + 4 * (j : Int) ∧ Hid (Below w.heap.size w wr)) (fun _ i _ => n - (intOf i).toNat)
  case atStart => exact ⟨0, 1, Nat.zero_le _, rfl, rfl, by omega, hide (Below.refl _ _)⟩
  case round =>
    obtain ⟨j, k, hj, rfl, rfl, hk, HB⟩ := hrel
    by_cases hlt : j < n
    · obtain ⟨b, off, e, hq⟩ := ((unhide HR).below (unhide HB)).at hlt
      simp only [Option.some.injEq, Addr.mk.injEq, and_true] at e
      obtain ⟨rfl, rfl⟩ := e
      have hqq := hq (by rw [marksQ_len]; exact hlt)
      rw [marksQ_at] at hqq
      have T0 : ∀ wx, Calls Tryz.prog 24 #[.int .i64 k] wx fun e w' => e = .returned (.string (bs (markQ j).name)) ∧ Below wx.heap.size wx w' := fun wx => by
        have := markText_int k wx (by omega) (by omega)
        rw [show k.toNat = 1 + 4 * j by omega] at this
        exact this
      have T1 : ∀ wx, Calls Tryz.prog 24 #[.int .i64 (k + 1)] wx fun e w' => e = .returned (.string (bs (markQ j).parent)) ∧ Below wx.heap.size wx w' := fun wx => by
        have := markText_int (k + 1) wx (by omega) (by omega)
        rw [show (k + 1).toNat = 1 + 4 * j + 1 by omega] at this
        exact this
      have hd : (markQ j).due = k + 1 + 1 := by rw [hk]; rfl
      have hm : (markQ j).most = k + 1 + 1 + 1 := by rw [hk]; rfl
      obtain ⟨q, hqe⟩ : ∃ q, markQ j = q := ⟨_, rfl⟩
      rw [hqe] at hqq T0 T1 hd hm
      have A0 := hide (show QOne w g (0 + j * 4) q wr from ⟨hqq, unhide HB⟩)
      have C0 := hide T0
      have C1 := hide T1
      have HK := hide hk
      have HD := hide hd
      have HM := hide hm
      have R := QOne.read w g (0 + j * 4) q
      simp only [Nat.zero_add] at A0 R
      have j0 : (0 : Int) ≤ j := by omega
      have j1 : (j : Int) < n := by omega
      have hk0 : 0 < k := by omega
      have hk1 : k ≤ 4194305 := by omega
      have hw1 : IntKind.i64.wrap (k + 1) = k + 1 := by rw [IntKind.wrap_i64]; omega
      clear hq hqq T0 T1 hqe hk hd hm
      go_wp2_with fail
      go_region_held3 (fun wx => QOne w g (j * 4) q wx)
        (first | (with_reducible assumption) | exact (unhide A0).drew | exact QOne.call (by assumption) (by assumption))
        (first
        | (go_at_call 24; refine (unhide C0 _).mono ?_; rintro e wt ⟨rfl, hb⟩; have SA := QOne.call (w0 := w) (b := g) (p := j * 4) (q := q) (by assumption) hb))
      have A1 := hide SA
      clear SA A0
      go_wp2_with fail
      go_region_held3 (fun wx => QOne w g (j * 4) q wx)
        (first | (with_reducible assumption) | exact (unhide A1).drew | exact QOne.call (by assumption) (by assumption))
        (first
        | (go_at_call 24; refine (unhide C1 _).mono ?_; rintro e wt2 ⟨rfl, hb⟩; have SA := QOne.call (w0 := w) (b := g) (p := j * 4) (q := q) (by assumption) hb))
      obtain ⟨_, _, r2, r3⟩ := R _ SA
      rw [unhide HD] at r2
      rw [unhide HM] at r3
      have HB2 := hide SA.2
      clear SA A1 R C0 C1
      go_wp2
      go_roundw
      case rel => exact ⟨j + 1, k + 1 + 1 + 1 + 1, by omega, by go_num, by go_num, by have := unhide HK; omega, HB2⟩
      case measure => simp [intOf]; omega
    · have hjn : j = n := by omega
      subst hjn
      go_wp2
      go_ret
      exact ⟨ret_int (by omega), unhide HB⟩
end Go.Proofs.YtgdndekmkaknlaaGreat

/-
  The laws' own marks at a list without a queue; walks over the dump.
-/
namespace Go.Proofs.YtgdndekmkaknlaaGreat
open Go.RowKit
set_option linter.unusedVariables false
set_option maxRecDepth 100000 in
set_option maxHeartbeats 1000000 in
theorem markQueueS_zero (ao : Option Addr) (c : Nat) (w : World) :
    Calls Tryz.prog 10 #[.slice ao 0 c, .int .i64 1] w fun e w' => e = .returned (.int .i64 1) ∧ w = w' := by
  go_enter Tryz.func10, Tryz.ntmps10
  go_wp2
  go_loopw [1, 5] (fun s i wr => i = .int .i64 0 ∧ s = .int .i64 1 ∧ wr = w) (fun _ _ _ => 0)
  case atStart => exact ⟨rfl, rfl, rfl⟩
  case round =>
    obtain ⟨rfl, rfl, rfl⟩ := hrel
    go_wp2
    go_ret
    exact ⟨rfl, rfl⟩
set_option maxRecDepth 100000 in
set_option maxHeartbeats 1000000 in
theorem heldQueueS_zero (ao : Option Addr) (c : Nat) (w : World) :
    Calls Tryz.prog 28 #[.slice ao 0 c, .int .i64 1] w fun e w' => e = .returned (.int .i64 1) ∧ w = w' := by
  go_enter Tryz.func28, Tryz.ntmps28
  go_wp2
  go_loopw [1, 5] (fun s i wr => i = .int .i64 0 ∧ s = .int .i64 1 ∧ wr = w) (fun _ _ _ => 0)
  case atStart => exact ⟨rfl, rfl, rfl⟩
  case round =>
    obtain ⟨rfl, rfl, rfl⟩ := hrel
    go_wp2
    go_ret
    exact ⟨rfl, rfl⟩
end Go.Proofs.YtgdndekmkaknlaaGreat
